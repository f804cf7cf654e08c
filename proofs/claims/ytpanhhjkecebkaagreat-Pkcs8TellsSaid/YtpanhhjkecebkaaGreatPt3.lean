import Derived.WalkSpells
import Derived.WalkLawsBesides
import Derived.Lib.Hide
import Derived.Test.YtpanhhjkecebkaaGreatPt2
set_option maxRecDepth 100000
namespace Go.Proofs.YtpanhhjkecebkaaGreat
open Go.RowKit
def Ret (f:Nat) (args:Array Value) (v:Value):Prop:=∀ w,Calls Tryz.prog f args w fun e w' => e = .returned v /\ w = w'
theorem Ret.calls {f:Nat} {args:Array Value} {v:Value} (h:Ret f args v) {w:World} {R:Ending -> World -> Prop} (k:R (.returned v) w):Calls Tryz.prog f args w R :=
 (h w).mono fun _ _ ⟨he,hw⟩ => by subst he; subst hw; exact k
def Mak (f:Nat) (args:Array Value) (v:Value):Prop:=∀ w,Calls Tryz.prog f args w fun e w' => e = .returned v /\ Below w.heap.size w w'
theorem Ret.mak {f:Nat} {args:Array Value} {v:Value} (h:Ret f args v):Mak f args v :=
 fun w => (h w).mono fun _ _ ⟨he,hw⟩ => by subst he; subst hw; exact ⟨rfl,Below.refl _ _⟩
def Since (W0 w:World):Prop:=Below W0.heap.size W0 w
theorem Since.refl (w:World):Since w w:=Below.refl _ _
theorem Since.step {W0 w w':World} (h:Since W0 w) (hb:Below w.heap.size w w'):Since W0 w':=Below.trans h (Below.mono hb (Below.size h))
theorem Since.alloc {W0 w:World} (h:Since W0 w) (o:Obj):Since W0 (w.alloc o):=Below.alloc h (Below.size h) o
theorem Since.drew {W0 w:World} (h:Since W0 w):Since W0 w.drew:=Below.drew h
theorem Since.below {W0 w:World} (h:Since W0 w):Below W0.heap.size W0 w:=h
theorem Mak.calls {f:Nat} {args:Array Value} {v:Value} (h:Mak f args v) {W0 w:World} (hs:Since W0 w) {R:Ending -> World -> Prop} (k:∀ w',Since W0 w' -> R (.returned v) w'):Calls Tryz.prog f args w R :=
 (h w).mono fun _ _ ⟨he,hb⟩ => by subst he; exact k _ (hs.step hb)
theorem Mak.calls0 {f:Nat} {args:Array Value} {v:Value} (h:Mak f args v) {w:World} {R:Ending -> World -> Prop} (k:∀ w',Below w.heap.size w w' -> R (.returned v) w'):Calls Tryz.prog f args w R :=
 (h w).mono fun _ _ ⟨he,hb⟩ => by subst he; exact k _ hb
end Go.Proofs.YtpanhhjkecebkaaGreat

namespace Go.Proofs.YtpanhhjkecebkaaGreat
class Up (a b : World) : Prop where up : ∀ {c}, Since b c → Since a c
instance (a : World) : Up a a := ⟨fun h => h⟩
instance (a : World) (o : Obj) : Up a (a.alloc o) := ⟨fun h => (Since.alloc (Since.refl _) _).step h⟩
instance (a : World) (o p : Obj) : Up a ((a.alloc o).alloc p) := ⟨fun h => (Since.alloc (Since.alloc (Since.refl _) _) _).step h⟩
instance (a : World) (o p q : Obj) : Up a (((a.alloc o).alloc p).alloc q) := ⟨fun h => (Since.alloc (Since.alloc (Since.alloc (Since.refl _) _) _) _).step h⟩
instance (a : World) : Up a a.drew := ⟨fun h => (Since.drew (Since.refl _)).step h⟩
theorem lH {p : Prop} (h : p) : RowKit.Hid p := Lib.hid h
end Go.Proofs.YtpanhhjkecebkaaGreat
namespace Go
def Exit.jumps (J:Nat -> Act -> World -> Prop) (Q:Exit -> Act -> World -> Prop):Exit -> Act -> World -> Prop
 | .goto l,a,w => J l a w
 | e,a,w => Q e a w
section
variable {P:Program} {a:Act} {w:World} {Q:Exit -> Act -> World -> Prop}
def LabelWp (P:Program) (c:Code) (Q:Exit -> Act -> World -> Prop):Nat -> Nat -> Act -> World -> Prop
 | 0,_,_,_ => False
 | n + 1,l,a,w => ∃ rest,findLabel c l = some rest /\ rest.wp P (Exit.jumps (LabelWp P c Q n) Q) a w
theorem wp_scope_some {c:Code} (n:Nat) (first:c.wp P (Exit.jumps (LabelWp P c Q n) Q) a w):(Code.scope c).wp P Q a w:=by
 intro b k cs;have hg:∀ l rest,findLabel c l = some rest -> gotoIn l (.inScope c :: k) = some (.code rest :: .inScope c :: k):=fun l rest hf => by simp [gotoIn,hf]
 have key:∀ n l a w,LabelWp P c Q n l a w -> ∃ rest,findLabel c l = some rest /\ ∃ e a' w',Q e a' w' /\ Arrives P (lone (b.at a (.code rest :: .inScope c :: k)) cs w) b k cs e a' w':=by
   intro n
   induction n with
   | zero => intro l a w h; exact h.elim
   | succ n ih =>
     intro l a w ⟨rest,hf,hw⟩;refine ⟨rest,hf, ?_⟩;obtain ⟨e,a₁,w₁,hq,harr⟩:=hw b (.inScope c :: k) cs;cases e with
     | normal => exact ⟨.normal,a₁,w₁,hq,Steps.trans harr (.one step_inScope)⟩
     | exit id => exact ⟨.exit id,a₁,w₁,hq,fun k' hk => harr k' (by simp [exitTo,hk])⟩
     | goto l' =>
       obtain ⟨rest',hf',e₂,a₂,w₂,hq₂,harr₂⟩:=ih l' a₁ w₁ hq;exact ⟨e₂,a₂,w₂,hq₂,.of_steps (harr _ (hg l' rest' hf')) harr₂⟩
     | ret => exact ⟨_,a₁,w₁,hq,harr⟩
     | panic ch => exact ⟨_,a₁,w₁,hq,harr⟩
     | outgrown => exact ⟨_,a₁,w₁,hq,harr⟩
 obtain ⟨e,a₁,w₁,hq,harr⟩:=first b (.inScope c :: k) cs;cases e with
 | normal => exact ⟨.normal,a₁,w₁,hq,.head step_scope (Steps.trans harr (.one step_inScope))⟩
 | exit id => exact ⟨.exit id,a₁,w₁,hq,fun k' hk => .head step_scope (harr k' (by simp [exitTo,hk]))⟩
 | goto l' =>
   obtain ⟨rest',hf',e₂,a₂,w₂,hq₂,harr₂⟩:=key _ l' a₁ w₁ hq;exact ⟨e₂,a₂,w₂,hq₂,.of_steps (.head step_scope (harr _ (hg l' rest' hf'))) harr₂⟩
 | ret => exact ⟨_,a₁,w₁,hq,.of_steps (.one step_scope) harr⟩
 | panic ch => exact ⟨_,a₁,w₁,hq,.of_steps (.one step_scope) harr⟩
 | outgrown => exact ⟨_,a₁,w₁,hq,.of_steps (.one step_scope) harr⟩
variable {J:Nat -> Act -> World -> Prop}
@[go_sem] theorem Exit.jumps_normal:Exit.jumps J Q .normal a w = Q .normal a w:=rfl
@[go_sem] theorem Exit.jumps_exit (id:Nat):Exit.jumps J Q (.exit id) a w = Q (.exit id) a w:=rfl
@[go_sem] theorem Exit.jumps_ret:Exit.jumps J Q .ret a w = Q .ret a w:=rfl
@[go_sem] theorem Exit.jumps_panic (ch:List PanicEntry):Exit.jumps J Q (.panic ch) a w = Q (.panic ch) a w:=rfl
end
end Go
namespace Go.Proofs.YtpanhhjkecebkaaGreat
open Go.RowKit
namespace Head
def first (c t:Nat) (b:Bool):Nat:=64 * c + (if b then 32 else 0) + t
def seg (t k:Nat):List UInt8:=if 2 ^ (7 * k) <= t then [UInt8.ofNat (128 + t / 2 ^ (7 * k) % 128)] else []
def tagL (c t:Nat) (b:Bool):List UInt8 :=
 if t < 31 then [UInt8.ofNat (first c t b)] else UInt8.ofNat (first c 31 b) :: (seg t 2 ++ seg t 1 ++ [UInt8.ofNat (t % 128)])
def lenL (n:Nat):List UInt8:=if n < 128 then [UInt8.ofNat n] else if n < 256 then [129,UInt8.ofNat n] else [130,UInt8.ofNat (n / 256),UInt8.ofNat (n % 256)]
def digR:List UInt8 -> Option (Nat × Nat)
 | [] => none
 | d :: r => if d.toNat < 128 then some (d.toNat,1) else match r with
   | [] => none
   | e :: q => if e.toNat < 128 then some (128 * (d.toNat - 128) + e.toNat,2) else match q with
     | [] => none
     | f :: _ => if f.toNat < 128 then some (128 * (128 * (d.toNat - 128) + (e.toNat - 128)) + f.toNat,3) else none
def tagR:List UInt8 -> Option (Nat × Nat × Bool × Nat)
 | [] => none
 | x :: l => if x.toNat % 32 < 31 then some (x.toNat / 64,x.toNat % 32,decide (x.toNat / 32 % 2 = 1),1) else
   match digR l with
   | none => none
   | some (t,k) => if tagL (x.toNat / 64) t (decide (x.toNat / 32 % 2 = 1)) = (x :: l).take (k + 1) then some (x.toNat / 64,t,decide (x.toNat / 32 % 2 = 1),k + 1) else none
def lenR:List UInt8 -> Nat × Nat × Nat
 | [] => (0,0,5)
 | x :: l => if x.toNat = 128 then (0,0,5) else if x.toNat < 128 then (x.toNat,1,0) else if 130 < x.toNat then (0,0,4) else
   if x.toNat = 129 then match l with
     | [] => (0,0,5)
     | d :: _ => if 128 <= d.toNat then (d.toNat,2,0) else (0,0,5)
   else match l with
     | d :: e :: _ => if 256 <= 256 * d.toNat + e.toNat then (256 * d.toNat + e.toNat,3,0) else (0,0,5)
     | _ => (0,0,5)
structure Hd where
 c:Nat
 t:Nat
 b:Bool
 n:Nat
def none0:Hd:=⟨0,0,false,0⟩
def dec (l:List UInt8):Hd × Nat × Nat:=match tagR l with
 | none => (none0,0,5)
 | some (c,t,b,k) => match lenR (l.drop k) with
   | (n,s,e) => if e = 0 then (⟨c,t,b,n⟩,k + s,0) else (none0,0,e)
def okH (c t n:Int):Prop:=0 <= c /\ c <= 3 /\ 0 <= t /\ t <= 2097151 /\ 0 <= n /\ n <= 65535
def encL (c t:Nat) (b:Bool) (n:Nat):List UInt8:=tagL c t b ++ lenL n
end Head
end Go.Proofs.YtpanhhjkecebkaaGreat
namespace Go.Proofs.YtpanhhjkecebkaaGreat
namespace Flt
open Ieee
theorem bin52:double.binade = 4503599627370496:=rfl
theorem infr:double.infRung = 9218868437227405312:=rfl
theorem sgw:double.signWeight = 9223372036854775808:=rfl
theorem frb:double.fractionBits = 52:=rfl
theorem lsp:double.leastPlace = -1074:=rfl
theorem log_scale (m M:Nat) (h:0 < m):(m * 2 ^ M).log2 = m.log2 + M:=by
 have hp:0 < m * 2 ^ M:=Nat.mul_pos h (Nat.two_pow_pos M);rw [Nat.log2_eq_iff (by omega)];have h2:=(Nat.log2_eq_iff (k:=m.log2) (n:=m) (by omega)).1 rfl;obtain ⟨a,b⟩:=h2
 constructor
 · rw [Nat.pow_add]; exact Nat.mul_le_mul_right _ a
 · rw [show m.log2 + M + 1 = (m.log2 + 1) + M by omega,Nat.pow_add]; exact Nat.mul_lt_mul_of_pos_right b (Nat.two_pow_pos M)
theorem log_lt53 (m:Nat) (h:0 < m) (hm:m < 9007199254740992):m.log2 <= 52:=by
 have h2:m.log2 < 53:=(Nat.log2_lt (by omega)).2 (by omega);omega
theorem frac_bounds (m:Nat) (h:0 < m) (hm:m < 9007199254740992):4503599627370496 <= m * 2 ^ (52 - m.log2) /\ m * 2 ^ (52 - m.log2) < 9007199254740992:=by
 have hk:=log_lt53 m h hm;obtain ⟨a,b⟩:=(Nat.log2_eq_iff (k:=m.log2) (n:=m) (by omega)).1 rfl;have e1:2 ^ m.log2 * 2 ^ (52 - m.log2) = 4503599627370496:=by rw [<- Nat.pow_add,show m.log2 + (52 - m.log2) = 52 by omega]
 have e2:2 ^ (m.log2 + 1) * 2 ^ (52 - m.log2) = 9007199254740992:=by rw [<- Nat.pow_add,show m.log2 + 1 + (52 - m.log2) = 53 by omega]
 constructor
 · rw [<- e1]; exact Nat.mul_le_mul_right _ a
 · rw [<- e2]; exact Nat.mul_lt_mul_of_pos_right b (Nat.two_pow_pos _)
theorem cut0 (neg:Bool) (n:Nat):Toward.even.cut neg n 0 = n:=by
 simp [Toward.cut,Nat.mod_one]
theorem cut_exact (way:Toward) (neg:Bool) (q d:Nat) (_h:0 < q) (hd:d <= (q * 2 ^ d).log2 + 2):way.cut neg (q * 2 ^ d) d = q:=by
 have h1:(1 <<< min d ((q * 2 ^ d).log2 + 2)) = 2 ^ d:=by rw [Nat.min_eq_left hd,Nat.one_shiftLeft]
 have hp:=Nat.two_pow_pos d;unfold Toward.cut;dsimp only;rw [h1,Nat.mul_div_cancel _ hp,Nat.mul_mod_left];generalize 2 ^ d = G at hp;cases way <;> simp <;> omega
theorem nearest_exact (neg:Bool) (m M:Nat) (h:0 < m) (hm:m < 9007199254740992) (_hM:M <= 1074) :
   double.nearest neg (m * 2 ^ M) (-(M:Int)) = double.word neg ((m.log2 + 1022) * 4503599627370496 + m * 2 ^ (52 - m.log2)):=by
 have hk:=log_lt53 m h hm;have hF:=frac_bounds m h hm;have hp:0 < m * 2 ^ M:=Nat.mul_pos h (Nat.two_pow_pos M);unfold Format.nearest;rw [if_neg (by omega),log_scale m M h,frb,lsp,bin52,infr];dsimp only;rw [show max (-(M:Int) + ((m.log2 + M:Nat):Int) - ((52:Nat):Int)) (-1074) = (m.log2:Int) - 52 by omega];have hl:((m.log2:Int) - 52 - -1074).toNat = m.log2 + 1022:=by omega
 rw [hl];have hkept:Toward.even.cut neg ((m * 2 ^ M) <<< (-(M:Int) - ((m.log2:Int) - 52)).toNat) ((m.log2:Int) - 52 - -(M:Int)).toNat = m * 2 ^ (52 - m.log2):=by
   by_cases hc:M + m.log2 <= 52
   · rw [show ((m.log2:Int) - 52 - -(M:Int)).toNat = 0 by omega,cut0,show (-(M:Int) - ((m.log2:Int) - 52)).toNat = 52 - m.log2 - M by omega,Nat.shiftLeft_eq,Nat.mul_assoc,<- Nat.pow_add,show M + (52 - m.log2 - M) = 52 - m.log2 by omega]
   · rw [show (-(M:Int) - ((m.log2:Int) - 52)).toNat = 0 by omega,show ((m.log2:Int) - 52 - -(M:Int)).toNat = m.log2 + M - 52 by omega,Nat.shiftLeft_zero];have e:m * 2 ^ M = m * 2 ^ (52 - m.log2) * 2 ^ (m.log2 + M - 52):=by rw [Nat.mul_assoc,<- Nat.pow_add,show 52 - m.log2 + (m.log2 + M - 52) = M by omega]
     have h9:=log_scale m M h;rw [e] at h9 ⊢;exact cut_exact _ _ _ _ (by omega) (by omega)
 rw [hkept,Nat.min_eq_left (by omega)]
theorem read_word (neg:Bool) (e F:Nat) (he:e <= 2045) (h1:4503599627370496 <= F) (h2:F < 9007199254740992) :
   double.read (double.word neg (e * 4503599627370496 + F)) = .number neg F (-1074 + (e:Int)):=by
 unfold Format.read Format.word;rw [bin52,infr,sgw,lsp];have hr:e * 4503599627370496 + F < 9218868437227405312:=by omega
 have hd:(e * 4503599627370496 + F) / 4503599627370496 = e + 1:=by omega
 have hm:4503599627370496 + (e * 4503599627370496 + F) % 4503599627370496 = F:=by omega
 cases neg
 · dsimp only;rw [if_neg (show ¬ (false = true) by decide)];rw [show ((e * 4503599627370496 + F) / 9223372036854775808 % 2 == 1) = false by rw [show (e * 4503599627370496 + F) / 9223372036854775808 = 0 by omega]; rfl];rw [Nat.mod_eq_of_lt (by omega),if_neg (by omega),if_pos hr,hm,hd]
   congr 1
 · dsimp only;rw [if_pos rfl];rw [show ((9223372036854775808 + (e * 4503599627370496 + F)) / 9223372036854775808 % 2 == 1) = true by rw [show (9223372036854775808 + (e * 4503599627370496 + F)) / 9223372036854775808 = 1 by omega]; rfl];rw [show (9223372036854775808 + (e * 4503599627370496 + F)) % 9223372036854775808 = e * 4503599627370496 + F by omega,if_neg (by omega),if_pos hr,hm,hd]
   congr 1
def fl (n:Int):Nat:=FloatKind.f64.nearest n
theorem fl_eq (n:Int):fl n = double.nearest (decide (n < 0)) n.natAbs 0:=rfl
def Is (b:Nat) (n:Int):Prop:=∃ j:Nat,j <= 1074 /\ double.read b = .number (decide (n < 0)) (n.natAbs * 2 ^ j) (-(j:Int))
theorem fl_is (n:Int) (h:n.natAbs < 9007199254740992):Is (fl n) n:=by
 by_cases h0:n = 0
 · subst h0;obtain ⟨j,hj⟩:∃ j,j = 1074:=⟨_,rfl⟩
   refine ⟨j,Nat.le_of_eq hj, ?_⟩;rw [Int.natAbs_zero,Nat.zero_mul,hj]
   decide +kernel
 · have hp:0 < n.natAbs:=by omega
   have h1:=nearest_exact (decide (n < 0)) n.natAbs 0 hp h (by omega);have hk:=log_lt53 _ hp h;have hF:=frac_bounds _ hp h;rw [Nat.pow_zero,Nat.mul_one,Int.natCast_zero,Int.neg_zero] at h1;refine ⟨52 - n.natAbs.log2,by omega, ?_⟩;rw [fl_eq,h1,read_word _ _ _ (by omega) hF.1 hF.2,show (-1074 + ((n.natAbs.log2 + 1022:Nat):Int)) = -((52 - n.natAbs.log2:Nat):Int) by omega]
theorem signed_of (n:Int) (j e:Nat):signed (decide (n < 0)) (n.natAbs * 2 ^ j) e = n * 2 ^ (j + e):=by
 unfold signed;rw [Nat.shiftLeft_eq,Nat.mul_assoc,<- Nat.pow_add]
 by_cases h:n < 0
 · rw [decide_eq_true h,if_pos rfl,Int.natCast_mul,Int.ofNat_natAbs_of_nonpos (by omega),Int.neg_mul,Int.neg_neg]
   norm_cast
 · rw [decide_eq_false h,if_neg (by decide),Int.natCast_mul,Int.natAbs_of_nonneg (by omega)]
   norm_cast
theorem min_places (i j:Nat):min (-(i:Int)) (-(j:Int)) = -((max i j:Nat):Int):=by omega
theorem compare_scale (x y:Int) (M:Nat):compare (x * 2 ^ M) (y * 2 ^ M) = compare x y:=by
 have hp:(0:Int) < 2 ^ M:=Int.pow_pos (by decide);have hl:x * 2 ^ M < y * 2 ^ M ↔ x < y:=Int.mul_lt_mul_right hp;have he:x * 2 ^ M = y * 2 ^ M ↔ x = y:=⟨fun h => Int.eq_of_mul_eq_mul_right (by omega) h,fun h => by rw [h]⟩
 show compareOfLessAndEq _ _ = compareOfLessAndEq _ _
 unfold compareOfLessAndEq;simp only [hl,he]
theorem order_is (a b:Nat) (x y:Int) (ha:Is a x) (hb:Is b y):FloatKind.f64.format.order a b = some (compare x y):=by
 obtain ⟨i,_,hi⟩:=ha;obtain ⟨j,_,hj⟩:=hb
 show double.order a b = _
 unfold Format.order;rw [hi,hj];unfold Datum.order;dsimp only;rw [min_places,signed_of,signed_of];rw [show i + (-(i:Int) - -((max i j:Nat):Int)).toNat = max i j by omega,show j + (-(j:Int) - -((max i j:Nat):Int)).toNat = max i j by omega,compare_scale]
theorem nearest_scale (n:Int) (M:Nat) (hM:M <= 1074) (neg:Bool) (hn:n.natAbs < 9007199254740992) (hneg:neg = decide (n < 0)):double.nearest neg (n.natAbs * 2 ^ M) (-(M:Int)) = fl n:=by
 subst hneg
 by_cases h0:n = 0
 · subst h0;rw [Int.natAbs_zero,Nat.zero_mul];unfold Format.nearest;rw [if_pos rfl]
   decide +kernel
 · rw [nearest_exact _ _ _ (by omega) hn hM,fl_eq];have:=nearest_exact (decide (n < 0)) n.natAbs 0 (by omega) hn (by omega);rw [Nat.pow_zero,Nat.mul_one,Int.natCast_zero,Int.neg_zero] at this;rw [this]
theorem natAbs_scale (x:Int) (M:Nat):(x * 2 ^ M).natAbs = x.natAbs * 2 ^ M:=by
 rw [Int.natAbs_mul];have h:((2:Int) ^ M) = ((2 ^ M:Nat):Int):=by norm_cast
 rw [h,Int.natAbs_natCast]
theorem scale_zero (x:Int) (M:Nat):x * 2 ^ M = 0 ↔ x = 0:=by
 have hp:(0:Int) < 2 ^ M:=Int.pow_pos (by decide);exact ⟨fun h => by rcases Int.mul_eq_zero.1 h with h | h <;> omega,fun h => by rw [h,Int.zero_mul]⟩
theorem scale_neg (x:Int) (M:Nat):x * 2 ^ M < 0 ↔ x < 0:=by
 have hp:(0:Int) < 2 ^ M:=Int.pow_pos (by decide);have hl:x * 2 ^ M < 0 * 2 ^ M ↔ x < 0:=Int.mul_lt_mul_right hp
 rwa [Int.zero_mul] at hl
theorem sum_is (x y:Int) (i j:Nat) (hi:i <= 1074) (hj:j <= 1074) (h:(x + y).natAbs < 9007199254740992) (s t:Bool) (hs:∀ e,signed s (x.natAbs * 2 ^ i) e = x * 2 ^ (i + e)) (ht:∀ e,signed t (y.natAbs * 2 ^ j) e = y * 2 ^ (j + e)) (hz:x + y = 0 -> (s && t) = false) :
   ((Datum.number s (x.natAbs * 2 ^ i) (-(i:Int))).sum (Datum.number t (y.natAbs * 2 ^ j) (-(j:Int)))).map double.write = some (fl (x + y)):=by
 unfold Datum.sum;dsimp only;rw [min_places,hs,ht];rw [show i + (-(i:Int) - -((max i j:Nat):Int)).toNat = max i j by omega,show j + (-(j:Int) - -((max i j:Nat):Int)).toNat = max i j by omega,<- Int.add_mul,natAbs_scale];rw [Option.map_some]
 congr 1
 show double.nearest _ _ _ = _
 refine nearest_scale (x + y) (max i j) (by omega) _ h ?_;simp only [scale_zero,scale_neg]
 by_cases h0:x + y = 0
 · rw [if_pos h0,hz h0,h0]; rfl
 · rw [if_neg h0]
theorem add_is (a b:Nat) (x y:Int) (ha:Is a x) (hb:Is b y) (h:(x + y).natAbs < 9007199254740992):FloatKind.f64.format.add a b = some (fl (x + y)):=by
 obtain ⟨i,hi0,hi⟩:=ha;obtain ⟨j,hj0,hj⟩:=hb
 show double.add a b = _
 unfold Format.add;rw [hi,hj];refine sum_is x y i j hi0 hj0 h _ _ (signed_of x i) (signed_of y j) (fun h0 => ?_)
 by_cases hx:x < 0
 · rw [decide_eq_false (show ¬ y < 0 by omega),Bool.and_false]
 · rw [decide_eq_false hx,Bool.false_and]
theorem toInt_is (b:Nat) (x:Int) (hb:Is b x) (h:-9223372036854775808 <= x /\ x <= 9223372036854775807):floatToIntVal .f64 b .i64 = some x:=by
 obtain ⟨j,hj0,hj⟩:=hb;have e:((FloatKind.f64.decode b).toInt .zero) = some x:=by
   show ((double.read b).toInt .zero) = _
   rw [hj];unfold Datum.toInt Datum.integral;dsimp only;rw [show (-(j:Int)).toNat = 0 by omega,show (- -(j:Int)).toNat = j by omega,Nat.shiftLeft_zero];have hc:Toward.zero.cut (decide (x < 0)) (x.natAbs * 2 ^ j) j = x.natAbs:=by
     by_cases h0:x = 0
     · subst h0;simp [Toward.cut]
     · refine cut_exact _ _ _ _ (by omega) ?_;rw [log_scale _ _ (by omega)];omega
   rw [hc];have h1:=signed_of x 0 0;rw [Nat.pow_zero,Nat.mul_one] at h1;rw [h1];simp
 unfold floatToIntVal;rw [e];dsimp only;rw [if_pos (by simpa [IntKind.min,IntKind.max,IntKind.signed,IntKind.bits] using h)]
end Flt
end Go.Proofs.YtpanhhjkecebkaaGreat
namespace Go.Proofs.YtpanhhjkecebkaaGreat
open Go.RowKit
namespace Dig
def val (c:Nat):Int:=if 48 <= c /\ c <= 57 then (c:Int) - 48 else if 65 <= c /\ c <= 70 then (c:Int) - 55 else -1
def hi (l:List UInt8) (j:Nat):Int:=val (l.getD (2 * j) 0).toNat
def lo (l:List UInt8) (j:Nat):Int:=val (l.getD (2 * j + 1) 0).toNat
def okN (l:List UInt8) (k:Nat):Bool:=(List.range k).all fun j => decide (0 <= hi l j) && decide (0 <= lo l j)
def unB (l:List UInt8):Bool:=decide (l.length % 2 = 0) && okN l (l.length / 2)
end Dig
end Go.Proofs.YtpanhhjkecebkaaGreat
namespace Go.Proofs.YtpanhhjkecebkaaGreat
namespace Setof
def ltB (a b:List UInt8):Bool:=decide (a < b)
def up (x y:List UInt8):Prop:=ltB y x = false
end Setof
end Go.Proofs.YtpanhhjkecebkaaGreat
