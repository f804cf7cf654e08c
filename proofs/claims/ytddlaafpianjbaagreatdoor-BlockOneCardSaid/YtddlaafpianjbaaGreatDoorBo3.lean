import Derived.WalkSpells
import Derived.WalkLawsBesides
import Derived.Lib.Hide
import Derived.Test.YtddlaafpianjbaaGreatDoorBo2
import Derived.Test.YtddlaafpianjbaaGreatDoorBo1
set_option maxRecDepth 100000
namespace Go.Proofs.YtddlaafpianjbaaGreatDoor
open Go.RowKit
def Ret (f:Nat) (args:Array Value) (v:Value):Prop:=∀ w,Calls Tryz.prog f args w fun e w' => e = .returned v /\ w = w'
theorem Ret.calls {f:Nat} {args:Array Value} {v:Value} (h:Ret f args v) {w:World} {R:Ending -> World -> Prop} (k:R (.returned v) w):Calls Tryz.prog f args w R :=
 (h w).mono fun _ _ ⟨he,hw⟩ => by subst he; subst hw; exact k
def Mak (f:Nat) (args:Array Value) (v:Value):Prop:=∀ w,Calls Tryz.prog f args w fun e w' => e = .returned v /\ Below w.heap.size w w'
theorem Ret.mak {f:Nat} {args:Array Value} {v:Value} (h:Ret f args v):Mak f args v :=
 fun w => (h w).mono fun _ _ ⟨he,hw⟩ => by subst he; subst hw; exact ⟨rfl,Below.refl _ _⟩
def Since (W0 w:World):Prop:=Below W0.heap.size W0 w
theorem Since.refl (w:World):Since w w:=Below.refl _ _
theorem Since.step {W0 w w':World} (h:Since W0 w) (hb:Below w.heap.size w w'):Since W0 w':=Below.trans h (Below.mono hb (Below.size h))
theorem Since.alloc {W0 w:World} (h:Since W0 w) (o:Obj):Since W0 (w.alloc o):=Below.alloc h (Below.size h) o
theorem Since.drew {W0 w:World} (h:Since W0 w):Since W0 w.drew:=Below.drew h
theorem Since.below {W0 w:World} (h:Since W0 w):Below W0.heap.size W0 w:=h
theorem Mak.calls {f:Nat} {args:Array Value} {v:Value} (h:Mak f args v) {W0 w:World} (hs:Since W0 w) {R:Ending -> World -> Prop} (k:∀ w',Since W0 w' -> R (.returned v) w'):Calls Tryz.prog f args w R :=
 (h w).mono fun _ _ ⟨he,hb⟩ => by subst he; exact k _ (hs.step hb)
theorem Mak.calls0 {f:Nat} {args:Array Value} {v:Value} (h:Mak f args v) {w:World} {R:Ending -> World -> Prop} (k:∀ w',Below w.heap.size w w' -> R (.returned v) w'):Calls Tryz.prog f args w R :=
 (h w).mono fun _ _ ⟨he,hb⟩ => by subst he; exact k _ hb
end Go.Proofs.YtddlaafpianjbaaGreatDoor

namespace Go.Proofs.YtddlaafpianjbaaGreatDoor
class Up (a b : World) : Prop where up : ∀ {c}, Since b c → Since a c
instance (a : World) : Up a a := ⟨fun h => h⟩
instance (a : World) (o : Obj) : Up a (a.alloc o) := ⟨fun h => (Since.alloc (Since.refl _) _).step h⟩
instance (a : World) (o p : Obj) : Up a ((a.alloc o).alloc p) := ⟨fun h => (Since.alloc (Since.alloc (Since.refl _) _) _).step h⟩
instance (a : World) (o p q : Obj) : Up a (((a.alloc o).alloc p).alloc q) := ⟨fun h => (Since.alloc (Since.alloc (Since.alloc (Since.refl _) _) _) _).step h⟩
instance (a : World) : Up a a.drew := ⟨fun h => (Since.drew (Since.refl _)).step h⟩
theorem lH {p : Prop} (h : p) : RowKit.Hid p := Lib.hid h
end Go.Proofs.YtddlaafpianjbaaGreatDoor
namespace Go.Proofs.YtddlaafpianjbaaGreatDoor
open Go.RowKit
namespace Dig
def val (c:Nat):Int:=if 48 <= c /\ c <= 57 then (c:Int) - 48 else if 65 <= c /\ c <= 70 then (c:Int) - 55 else -1
def sign (d:Nat):UInt8:=([48,49,50,51,52,53,54,55,56,57,65,66,67,68,69,70]:List UInt8).getD d 0
theorem sign_at (d:Nat) (h:d < (⟨#[48,49,50,51,52,53,54,55,56,57,65,66,67,68,69,70]⟩:ByteArray).size):(⟨#[48,49,50,51,52,53,54,55,56,57,65,66,67,68,69,70]⟩:ByteArray)[d] = sign d:=by
 have h':d < 16:=h
 rcases (show d = 0 ∨ d = 1 ∨ d = 2 ∨ d = 3 ∨ d = 4 ∨ d = 5 ∨ d = 6 ∨ d = 7 ∨ d = 8 ∨ d = 9 ∨ d = 10 ∨ d = 11 ∨ d = 12 ∨ d = 13 ∨ d = 14 ∨ d = 15 by omega) with rfl | rfl | rfl | rfl | rfl | rfl | rfl | rfl | rfl | rfl | rfl | rfl | rfl | rfl | rfl | rfl <;> rfl
theorem getD_at (s:ByteArray) (k:Nat) (h:k < s.size):s.data.toList.getD k 0 = s[k]:=by
 simp [List.getD,List.getElem?_eq_getElem (show k < s.data.toList.length from h)]; rfl
def hexL (l:List UInt8):List UInt8:=l.flatMap fun c => [sign (c.toNat / 16),sign (c.toNat % 16)]
def hexC (l:List UInt8) (j:Nat):Value:=.int .u8 (if j % 2 = 0 then ((sign ((l.getD (j / 2) 0).toNat / 16)).toNat:Int) else ((sign ((l.getD (j / 2) 0).toNat % 16)).toNat:Int))
theorem hexL_len (l:List UInt8):(hexL l).length = 2 * l.length:=by
 induction l with
 | nil => rfl
 | cons c l ih =>
   show (sign (c.toNat / 16) :: sign (c.toNat % 16) :: hexL l).length = _
   simp only [List.length_cons,ih]; omega
theorem hexL_get (l:List UInt8) (i:Nat) (hi:i < 2 * l.length):(hexL l)[i]? = some (if i % 2 = 0 then sign ((l.getD (i / 2) 0).toNat / 16) else sign ((l.getD (i / 2) 0).toNat % 16)):=by
 induction l generalizing i with
 | nil => simp at hi
 | cons c l ih =>
   have he:hexL (c :: l) = sign (c.toNat / 16) :: sign (c.toNat % 16) :: hexL l:=rfl
   rw [he]
   match i with
   | 0 => rfl
   | 1 => rfl
   | i + 2 =>
     show (hexL l)[i]? = _
     rw [ih i (by simp at hi; omega),show (i + 2) % 2 = i % 2 from by omega,show (i + 2) / 2 = i / 2 + 1 from by omega]
     rfl
theorem hexL_at (l:List UInt8) (i:Nat) (hi:i < 2 * l.length):some (hexC l i) = some (Value.int .u8 (((hexL l).map fun c => (c.toNat:Int)).getD i 0)):=by
 have h:=hexL_get l i hi
 unfold hexC
 have hm:((hexL l).map fun c => (c.toNat:Int)).getD i 0 = ((if i % 2 = 0 then sign ((l.getD (i / 2) 0).toNat / 16) else sign ((l.getD (i / 2) 0).toNat % 16)).toNat:Int):=by
   unfold List.getD; rw [List.getElem?_map]; unfold List.getD at h; rw [h]; rfl
 rw [hm]
 split <;> rfl
theorem val_lt (c:Nat):-1 <= val c /\ val c <= 15:=by unfold val; split <;> (try split) <;> omega
def hi (l:List UInt8) (j:Nat):Int:=val (l.getD (2 * j) 0).toNat
def lo (l:List UInt8) (j:Nat):Int:=val (l.getD (2 * j + 1) 0).toNat
def okN (l:List UInt8) (k:Nat):Bool:=(List.range k).all fun j => decide (0 <= hi l j) && decide (0 <= lo l j)
def pairV (l:List UInt8) (j:Nat):Int:=16 * hi l j + lo l j
def unB (l:List UInt8):Bool:=decide (l.length % 2 = 0) && okN l (l.length / 2)
def unS (l:List UInt8):ByteArray:=if unB l = true then strOfNums ((List.range (l.length / 2)).map (pairV l)) else ⟨#[]⟩
theorem okN_succ (l:List UInt8) (k:Nat):okN l (k + 1) = (okN l k && (decide (0 <= hi l k) && decide (0 <= lo l k))):=by
 unfold okN; rw [List.range_succ,List.all_append]; simp
theorem okN_le (l:List UInt8) (k m:Nat) (h:okN l m = true) (hk:k <= m):okN l k = true:=by
 unfold okN at *
 rw [List.all_eq_true] at *
 exact fun x hx => h x (List.mem_range.2 (by have:=List.mem_range.1 hx; omega))
theorem val_sign (c k:Nat) (hk:k < 16) (h:(sign k).toNat = c):val c = (k:Int):=by
 subst h
 rcases (show k = 0 ∨ k = 1 ∨ k = 2 ∨ k = 3 ∨ k = 4 ∨ k = 5 ∨ k = 6 ∨ k = 7 ∨ k = 8 ∨ k = 9 ∨ k = 10 ∨ k = 11 ∨ k = 12 ∨ k = 13 ∨ k = 14 ∨ k = 15 by omega) with rfl | rfl | rfl | rfl | rfl | rfl | rfl | rfl | rfl | rfl | rfl | rfl | rfl | rfl | rfl | rfl <;> decide +kernel
theorem no_all:(List.range 256).all (fun c => (List.range 16).any (fun k => (sign k).toNat == c) || val c == -1) = true:=by decide +kernel
theorem val_none (c:Nat) (hc:c < 256) (h:∀ k,k < 16 -> (sign k).toNat ≠ c):val c = -1:=by
 have h1:=List.all_eq_true.1 no_all c (List.mem_range.2 hc)
 rw [Bool.or_eq_true] at h1
 rcases h1 with h1 | h1
 · obtain ⟨k,hk,he⟩:=List.any_eq_true.1 h1
   exact absurd (beq_iff_eq.1 he) (h k (List.mem_range.1 hk))
 · exact beq_iff_eq.1 h1
end Dig
end Go.Proofs.YtddlaafpianjbaaGreatDoor
namespace Go
def Exit.jumps (J:Nat -> Act -> World -> Prop) (Q:Exit -> Act -> World -> Prop):Exit -> Act -> World -> Prop
 | .goto l,a,w => J l a w
 | e,a,w => Q e a w
section
variable {P:Program} {a:Act} {w:World} {Q:Exit -> Act -> World -> Prop}
def LabelWp (P:Program) (c:Code) (Q:Exit -> Act -> World -> Prop):Nat -> Nat -> Act -> World -> Prop
 | 0,_,_,_ => False
 | n + 1,l,a,w => ∃ rest,findLabel c l = some rest /\ rest.wp P (Exit.jumps (LabelWp P c Q n) Q) a w
theorem wp_scope_some {c:Code} (n:Nat) (first:c.wp P (Exit.jumps (LabelWp P c Q n) Q) a w):(Code.scope c).wp P Q a w:=by
 intro b k cs
 have hg:∀ l rest,findLabel c l = some rest -> gotoIn l (.inScope c :: k) = some (.code rest :: .inScope c :: k):=fun l rest hf => by simp [gotoIn,hf]
 have key:∀ n l a w,LabelWp P c Q n l a w -> ∃ rest,findLabel c l = some rest /\ ∃ e a' w',Q e a' w' /\ Arrives P (lone (b.at a (.code rest :: .inScope c :: k)) cs w) b k cs e a' w':=by
   intro n
   induction n with
   | zero => intro l a w h; exact h.elim
   | succ n ih =>
     intro l a w ⟨rest,hf,hw⟩
     refine ⟨rest,hf, ?_⟩
     obtain ⟨e,a₁,w₁,hq,harr⟩:=hw b (.inScope c :: k) cs
     cases e with
     | normal => exact ⟨.normal,a₁,w₁,hq,Steps.trans harr (.one step_inScope)⟩
     | exit id => exact ⟨.exit id,a₁,w₁,hq,fun k' hk => harr k' (by simp [exitTo,hk])⟩
     | goto l' =>
       obtain ⟨rest',hf',e₂,a₂,w₂,hq₂,harr₂⟩:=ih l' a₁ w₁ hq
       exact ⟨e₂,a₂,w₂,hq₂,.of_steps (harr _ (hg l' rest' hf')) harr₂⟩
     | ret => exact ⟨_,a₁,w₁,hq,harr⟩
     | panic ch => exact ⟨_,a₁,w₁,hq,harr⟩
     | outgrown => exact ⟨_,a₁,w₁,hq,harr⟩
 obtain ⟨e,a₁,w₁,hq,harr⟩:=first b (.inScope c :: k) cs
 cases e with
 | normal => exact ⟨.normal,a₁,w₁,hq,.head step_scope (Steps.trans harr (.one step_inScope))⟩
 | exit id => exact ⟨.exit id,a₁,w₁,hq,fun k' hk => .head step_scope (harr k' (by simp [exitTo,hk]))⟩
 | goto l' =>
   obtain ⟨rest',hf',e₂,a₂,w₂,hq₂,harr₂⟩:=key _ l' a₁ w₁ hq
   exact ⟨e₂,a₂,w₂,hq₂,.of_steps (.head step_scope (harr _ (hg l' rest' hf'))) harr₂⟩
 | ret => exact ⟨_,a₁,w₁,hq,.of_steps (.one step_scope) harr⟩
 | panic ch => exact ⟨_,a₁,w₁,hq,.of_steps (.one step_scope) harr⟩
 | outgrown => exact ⟨_,a₁,w₁,hq,.of_steps (.one step_scope) harr⟩
variable {J:Nat -> Act -> World -> Prop}
@[go_sem] theorem Exit.jumps_normal:Exit.jumps J Q .normal a w = Q .normal a w:=rfl
@[go_sem] theorem Exit.jumps_exit (id:Nat):Exit.jumps J Q (.exit id) a w = Q (.exit id) a w:=rfl
@[go_sem] theorem Exit.jumps_ret:Exit.jumps J Q .ret a w = Q .ret a w:=rfl
@[go_sem] theorem Exit.jumps_panic (ch:List PanicEntry):Exit.jumps J Q (.panic ch) a w = Q (.panic ch) a w:=rfl
end
end Go
namespace Go.Proofs.YtddlaafpianjbaaGreatDoor
open Go.RowKit
namespace Head
def first (c t:Nat) (b:Bool):Nat:=64 * c + (if b then 32 else 0) + t
def seg (t k:Nat):List UInt8:=if 2 ^ (7 * k) <= t then [UInt8.ofNat (128 + t / 2 ^ (7 * k) % 128)] else []
def tagL (c t:Nat) (b:Bool):List UInt8 :=
 if t < 31 then [UInt8.ofNat (first c t b)] else UInt8.ofNat (first c 31 b) :: (seg t 2 ++ seg t 1 ++ [UInt8.ofNat (t % 128)])
def lenL (n:Nat):List UInt8:=if n < 128 then [UInt8.ofNat n] else if n < 256 then [129,UInt8.ofNat n] else [130,UInt8.ofNat (n / 256),UInt8.ofNat (n % 256)]
structure Hd where
 c:Nat
 t:Nat
 b:Bool
 n:Nat
def encL (c t:Nat) (b:Bool) (n:Nat):List UInt8:=tagL c t b ++ lenL n
end Head
end Go.Proofs.YtddlaafpianjbaaGreatDoor
namespace Go.Proofs.YtddlaafpianjbaaGreatDoor
namespace Flt
open Ieee
def fl (n:Int):Nat:=FloatKind.f64.nearest n
end Flt
end Go.Proofs.YtddlaafpianjbaaGreatDoor
namespace Go.Proofs.YtddlaafpianjbaaGreatDoor
open Go.RowKit
namespace Plain
end Plain
namespace Field
theorem ret_int {k:IntKind} {a b:Int} (h:a = b):Ending.returned (.int k a) = .returned (.int k b):=by rw [h]
theorem byte_all {p:Int -> Bool} (h:(List.range 256).all (fun n => p (n:Int)) = true) (a:Int) (h0:0 <= a) (h1:a <= 255):p a = true:=by
 obtain ⟨n,rfl⟩:=Int.eq_ofNat_of_zero_le h0
 exact List.all_eq_true.1 h n (List.mem_range.2 (by omega))
theorem twice_hi (a:Int) (h0:0 <= a) (h1:a <= 255) (h:(bits .and .u8 a 128 != 0) = true):bits .xor .u8 (a * 2 % 256) 27 = ((Gf.xt a.toNat:Nat):Int):=by
 have:=byte_all (p:=fun a => !(bits .and .u8 a 128 != 0) || bits .xor .u8 (a * 2 % 256) 27 == ((Gf.xt a.toNat:Nat):Int)) (by decide +kernel) a h0 h1
 simpa [h] using this
theorem twice_lo (a:Int) (h0:0 <= a) (h1:a <= 255) (h:(bits .and .u8 a 128 != 0) = false):a * 2 % 256 = ((Gf.xt a.toNat:Nat):Int):=by
 have:=byte_all (p:=fun a => (bits .and .u8 a 128 != 0) || a * 2 % 256 == ((Gf.xt a.toNat:Nat):Int)) (by decide +kernel) a h0 h1
 simpa [h] using this
set_option maxHeartbeats 400000 in
theorem twice_any (a:Int) (w:World) (h0:0 <= a) (h1:a <= 255) :
   Calls Tryz.prog 219 #[.int .u8 a] w fun e w' => e = .returned (.int .u8 ((Gf.xt a.toNat:Nat):Int)) /\ w = w':=by
 go_enter Tryz.func219,Tryz.ntmps219
 go_wp2
 · go_ret
   exact ⟨ret_int (twice_hi a h0 h1 (by assumption)),rfl⟩
 · go_ret
   exact ⟨ret_int (twice_lo a h0 h1 (by assumption)),rfl⟩
set_option maxHeartbeats 400000 in
theorem add_any (a b:Int) (w:World) (h0:0 <= a) (h1:a <= 255) (g0:0 <= b) (g1:b <= 255) :
   Calls Tryz.prog 258 #[.int .u8 a,.int .u8 b] w fun e w' => e = .returned (.int .u8 ((a.toNat ^^^ b.toNat:Nat):Int)) /\ w = w':=by
 go_enter Tryz.func258,Tryz.ntmps258
 go_wp2
 go_ret
 exact ⟨ret_int (u8_xor a b h0 (by omega) g0 (by omega)),rfl⟩
theorem bit_any (b:Int) (h0:0 <= b) (h1:b <= 255) (k:Nat) (hk:k < 8):(bits .and .u8 (b / 2 ^ k) 1 != 0) = b.toNat.testBit k:=by
 have:=byte_all (p:=fun b => (List.range 8).all fun k => (bits .and .u8 (b / 2 ^ k) 1 != 0) == b.toNat.testBit k) (by decide +kernel) b h0 h1
 simpa using List.all_eq_true.1 this k (List.mem_range.2 hk)
set_option maxHeartbeats 400000 in
theorem mul_any (a b:Int) (w:World) (h0:0 <= a) (h1:a <= 255) (g0:0 <= b) (g1:b <= 255) :
   Calls Tryz.prog 241 #[.int .u8 a,.int .u8 b] w fun e w' => e = .returned (.int .u8 ((Gf.mul a.toNat b.toNat:Nat):Int)) /\ w = w':=by
 go_enter Tryz.func241,Tryz.ntmps241
 go_wp2
 go_loop [0,5,7] (fun x s i => ∃ k:Nat,k <= 8 /\ i = .int .i64 k /\ s = .int .u8 (((Gf.st a.toNat b.toNat k).1:Nat):Int) /\ x = .int .u8 (((Gf.st a.toNat b.toNat k).2:Nat):Int)) (fun _ _ i => 8 - (intOf i).toNat)
 case atStart => exact ⟨0,by omega,rfl,rfl,by simp [Gf.st]; omega⟩
 case round =>
   obtain ⟨k,hk,rfl,rfl,rfl⟩:=hrel
   have hl:=Gf.st_lt a.toNat b.toNat k (by omega)
   by_cases hlt:k < 8
   · have hb:=bit_any b g0 g1 k hlt
     have e1:Gf.st a.toNat b.toNat (k + 1) = ((if b.toNat.testBit k then (Gf.st a.toNat b.toNat k).1 ^^^ (Gf.st a.toNat b.toNat k).2 else (Gf.st a.toNat b.toNat k).1),Gf.xt (Gf.st a.toNat b.toNat k).2):=rfl
     cases hc:b.toNat.testBit k
     all_goals
       rw [hc] at hb e1
       have E1:=Lib.hid e1; clear e1 hc
       generalize Gf.st a.toNat b.toNat k = t at *
       go_wp2_with (first | (go_at_call 258; refine (add_any _ _ _ (by omega) (by omega) (by omega) (by omega)).mono ?_; rintro e w' ⟨rfl,rfl⟩) | (go_at_call 219; refine (twice_any _ _ (by omega) (by omega)).mono ?_; rintro e w' ⟨rfl,rfl⟩))
       go_round
       case rel => exact ⟨k + 1,by omega,by go_num,by rw [E1.out]; try simp,by rw [E1.out]; try simp⟩
       case measure => simp [intOf]; omega
   · go_wp2_with fail
     go_ret
     obtain rfl:k = 8:=by omega
     exact ⟨rfl,rfl⟩
set_option maxHeartbeats 400000 in
theorem pow_any (a n:Int) (w:World) (h0:0 <= a) (h1:a <= 255) (hn:n <= 9223372036854775807) :
   Calls Tryz.prog 257 #[.int .u8 a,.int .i64 n] w fun e w' => e = .returned (.int .u8 ((Gf.pow a.toNat n.toNat:Nat):Int)) /\ w = w':=by
 go_enter Tryz.func257,Tryz.ntmps257
 go_wp2
 go_loop [0,1,5] (fun x m p => ∃ (f p' x':Nat) (y:Int),x' < 256 /\ p' < 256 /\ y <= 9223372036854775807 /\ y.toNat < 2 ^ f /\ Gf.powF f p' x' y.toNat = Gf.pow a.toNat n.toNat /\ x = .int .u8 (x':Int) /\ m = .int .i64 y /\ p = .int .u8 (p':Int)) (fun _ m _ => (intOf m).toNat)
 case atStart => exact ⟨64,1,a.toNat,n,by omega,by omega,hn,by omega,rfl,by rw [Int.toNat_of_nonneg h0],rfl,rfl⟩
 case round =>
   obtain ⟨f,p',x',y,hx,hp,hy,hf,hv,rfl,rfl,rfl⟩:=hrel
   have HV:=Lib.hid hv; clear hv
   by_cases hlt:0 < y
   · obtain ⟨f,rfl⟩:∃ g,f = g + 1:=by cases f with
       | zero => simp at hf; omega
       | succ g => exact ⟨g,rfl⟩
     have hm:=Gf.mul_lt p' x' hp
     have hm2:=Gf.mul_lt x' x' hx
     have hs:Gf.powF (f + 1) p' x' y.toNat = Gf.powF f (if y.toNat % 2 = 1 then Gf.mul p' x' else p') (Gf.mul x' x') (y.toNat / 2):=by
       simp only [Gf.powF]; rw [if_neg (by omega)]
     have HS:=Lib.hid hs; clear hs
     have hf2:(y / 2).toNat < 2 ^ f:=by rw [Nat.pow_succ] at hf; omega
     go_wp2_with (go_at_call 241; refine (mul_any _ _ _ (by omega) (by omega) (by omega) (by omega)).mono ?_; rintro e w' ⟨rfl,rfl⟩)
     · go_round
       case rel =>
         have hodd:(y % 2 != 0) = true:=by assumption
         refine ⟨f,Gf.mul p' x',Gf.mul x' x',y / 2,hm2,hm,by omega,hf2, ?_,by simp,rfl,by simp⟩
         rw [<- HV.out,HS.out,if_pos (by simp at hodd; omega),show (y / 2).toNat = y.toNat / 2 from by omega]
       case measure => simp [intOf]; omega
     · go_round
       case rel =>
         have hodd:(y % 2 != 0) = false:=by assumption
         refine ⟨f,p',Gf.mul x' x',y / 2,hm2,hp,by omega,hf2, ?_,by simp,rfl,by simp⟩
         rw [<- HV.out,HS.out,if_neg (by simp at hodd; omega),show (y / 2).toNat = y.toNat / 2 from by omega]
       case measure => simp [intOf]; omega
   · go_wp2_with fail
     go_ret
     refine ⟨ret_int ?_,rfl⟩
     rw [<- HV.out,show y.toNat = 0 from by omega,Gf.powF_zero]
set_option maxHeartbeats 400000 in
theorem inv_any (a:Int) (w:World) (h0:0 <= a) (h1:a <= 255) :
   Calls Tryz.prog 239 #[.int .u8 a] w fun e w' => e = .returned (.int .u8 ((Gf.inv a.toNat:Nat):Int)) /\ w = w':=by
 go_enter Tryz.func239,Tryz.ntmps239
 go_wp2_with (go_at_call 257; refine (pow_any _ _ _ (by omega) (by omega) (by omega)).mono ?_; rintro e w' ⟨rfl,rfl⟩)
 go_ret
 exact ⟨rfl,rfl⟩
end Field
namespace RefField
open Go.Proofs.YtddlaafpianjbaaGreatDoor.Field
attribute [local irreducible] Gf.mul Gf.inv Gf.pow Gf.logN Gf.logB Gf.xt Gf.cl Gf.red Gf.rmul
theorem ofInt64 (a:Nat) (ha:a < 9223372036854775808):(BitVec.ofInt 64 (a:Int)).toNat = a:=by
 rw [BitVec.ofInt_natCast,BitVec.toNat_ofNat]; exact Nat.mod_eq_of_lt (by omega)
theorem xor64 (a b:Nat) (ha:a < 65536) (hb:b < 65536):bits .xor .i64 (a:Int) (b:Int) = ((a ^^^ b:Nat):Int):=by
 have hx:a ^^^ b < 2 ^ 16:=Nat.xor_lt_two_pow (by omega) (by omega)
 show IntKind.i64.wrap ((BitVec.ofInt 64 (a:Int) ^^^ BitVec.ofInt 64 (b:Int)).toNat:Int) = _
 rw [BitVec.toNat_xor,ofInt64 a (by omega),ofInt64 b (by omega),IntKind.wrap_i64]
 omega
theorem bit64 (b k:Nat):((((b:Nat):Int) / 2 ^ k).tmod 2 == 1) = b.testBit k:=by
 have h:((b:Int) / 2 ^ k).tmod 2 = ((b / 2 ^ k % 2:Nat):Int):=by
   rw [Int.tmod_eq_emod_of_nonneg (Int.ediv_nonneg (by omega) (Int.le_of_lt (Int.pow_pos (by decide))))]; simp
 rw [h,Gf.testBit_div,Bool.eq_iff_iff]
 simp only [beq_iff_eq,decide_eq_true_eq]
 omega
theorem shl64 (a k:Nat) (ha:a < 512) (hk:k < 8):wrap64 ((a:Int) * 2 ^ k) = ((a <<< k:Nat):Int) /\ a <<< k < 65536:=by
 have hp:2 ^ k <= 2 ^ 7:=Nat.pow_le_pow_right (by decide) (by omega)
 have hm:a * 2 ^ k <= 511 * 2 ^ 7:=Nat.mul_le_mul (by omega) hp
 have he:(a:Int) * 2 ^ k = ((a * 2 ^ k:Nat):Int):=by simp
 rw [Nat.shiftLeft_eq,he,IntWalk.wrap64_in _ (by omega)]
 exact ⟨rfl,by omega⟩
set_option maxHeartbeats 400000 in
theorem mul_any (a b:Nat) (w:World) (h1:a <= 255) (g1:b <= 255) :
   Calls Tryz.prog 260 #[.int .u8 (a:Int),.int .u8 (b:Int)] w fun e w' => e = .returned (.int .u8 ((Gf.rmul a b:Nat):Int)) /\ w = w':=by
 have hf:Gf.rmul a b = Gf.red (Gf.cl a b 8) 7 % 256:=by with_unfolding_all rfl
 rw [hf]; clear hf
 go_enter Tryz.func260,Tryz.ntmps260
 go_wp2
 go_loop [5,6] (fun p i => ∃ k:Nat,k <= 8 /\ i = .int .i64 k /\ p = .int .i64 ((Gf.cl a b k:Nat):Int)) (fun _ i => 8 - (intOf i).toNat)
 case atStart => exact ⟨0,by omega,rfl,by unfold Gf.cl; rfl⟩
 case round =>
   obtain ⟨k,hk,rfl,rfl⟩:=hrel
   have hl:=Gf.cl_lt a b k (by omega) hk
   by_cases hlt:k < 8
   · obtain ⟨s1,s2⟩:=shl64 a k (by omega) hlt
     have hx:=xor64 (Gf.cl a b k) (a <<< k) hl s2
     have hb:=bit64 b k
     have hs:Gf.cl a b (k + 1) = if b.testBit k then Gf.cl a b k ^^^ (a <<< k) else Gf.cl a b k:=by with_unfolding_all rfl
     cases hc:b.testBit k
     all_goals
       rw [hc] at hb hs
       have HS:=Lib.hid hs; have HX:=Lib.hid hx; have S1:=Lib.hid s1; clear hs hx hc s1 s2
       go_wp2_with fail
       go_round
       case rel => exact ⟨k + 1,by omega,by go_num,by rw [HS.out]; first | rfl | (rw [S1.out,HX.out]; rfl)⟩
       case measure => simp [intOf]; omega
   · obtain rfl:k = 8:=by omega
     go_wp2_with fail
     go_loop [5,7] (fun p i => ∃ j:Nat,j <= 7 /\ i = .int .i64 (14 - (j:Int)) /\ p = .int .i64 ((Gf.red (Gf.cl a b 8) j:Nat):Int)) (fun _ i => (intOf i).toNat)
     case atStart => exact ⟨0,by omega,rfl,by unfold Gf.red; rfl⟩
     case round =>
       obtain ⟨j,hj,rfl,rfl⟩:=hrel
       generalize hcd:Gf.cl a b 8 = c at *
       have HC:=Lib.hid hcd; clear hcd
       have hr:=Gf.red_lt c j hl hj
       by_cases hlt:j < 7
       · obtain ⟨s1,s2⟩:=shl64 283 (14 - j - 8) (by omega) (by omega)
         have hx:=xor64 (Gf.red c j) (283 <<< (14 - j - 8)) hr s2
         have hb:=bit64 (Gf.red c j) (14 - j)
         have hs:Gf.red c (j + 1) = if (Gf.red c j).testBit (14 - j) then Gf.red c j ^^^ (283 <<< (14 - j - 8)) else Gf.red c j:=by
           rw [show 14 - j - 8 = 6 - j from by omega]; with_unfolding_all rfl
         cases hc:(Gf.red c j).testBit (14 - j)
         all_goals
           rw [hc] at hb hs
           have HS:=Lib.hid hs; have HX:=Lib.hid hx; have S1:=Lib.hid s1; clear hs hx hc s1 s2
           go_wp2_with fail
           go_round
           case rel => exact ⟨j + 1,by omega,by congr 1; omega,by rw [HS.out]; first | rfl | (rw [show wrap64 (283 * 2 ^ (14 - j - 8)) = ((283 <<< (14 - j - 8):Nat):Int) from S1.out,HX.out]; rfl)⟩
           case measure => simp [intOf]; omega
       · obtain rfl:j = 7:=by omega
         go_wp2_with fail
         go_ret
         have hm:((Gf.red c 7:Nat):Int) % 256 = ((Gf.red c 7 % 256:Nat):Int):=by simp
         exact ⟨ret_int (by rw [HC.out]; try exact hm),rfl⟩
set_option maxHeartbeats 400000 in
theorem mul_ret (a b:Nat) (w:World) (h1:a <= 255) (g1:b <= 255) :
   Calls Tryz.prog 260 #[.int .u8 (a:Int),.int .u8 (b:Int)] w fun e w' => e = .returned (.int .u8 ((Gf.mul a b:Nat):Int)) /\ w = w':=by
 rw [<- Gf.rmul_eq a b (by omega) (by omega)]; exact mul_any a b w h1 g1
set_option maxHeartbeats 400000 in
theorem pow_ret (a:Nat) (n:Int) (w:World) (h1:a <= 255) (hn:n <= 9223372036854775807) :
   Calls Tryz.prog 243 #[.int .u8 (a:Int),.int .i64 n] w fun e w' => e = .returned (.int .u8 ((Gf.pow a n.toNat:Nat):Int)) /\ w = w':=by
 by_cases h:n < 1
 · have hz:Gf.pow a n.toNat = 1:=by rw [show n.toNat = 0 from by omega]; exact Gf.pow_zero a
   have HZ:=Lib.hid hz; clear hz
   go_enter Tryz.func243,Tryz.ntmps243
   go_wp2_with fail
   go_ret
   rw [HZ.out]; exact ⟨rfl,rfl⟩
 · by_cases ha:a = 0
   · subst ha
     have hz:Gf.pow 0 n.toNat = 0:=Gf.pow_of_zero n.toNat (by omega) (by omega)
     have HZ:=Lib.hid hz; clear hz
     go_enter Tryz.func243,Tryz.ntmps243
     go_wp2_with fail
     go_ret
     rw [HZ.out]; exact ⟨rfl,rfl⟩
   · have hb:((a:Int) == 0) = false:=by simp; omega
     have hz:Gf.pow a n.toNat = Gf.ipw a (n.toNat % 255):=Gf.pow_mod a n.toNat (by omega) (by omega) (by omega)
     have HZ:=Lib.hid hz; clear hz
     have hm:n % 255 = ((n.toNat % 255:Nat):Int):=by omega
     have hq:n.toNat % 255 < 255:=Nat.mod_lt _ (by decide)
     generalize hqq:n.toNat % 255 = q at *
     have HQ:=Lib.hid hqq; clear hqq
     have HA:=Lib.hid ha; clear ha
     go_enter Tryz.func243,Tryz.ntmps243
     go_wp2_with fail
     go_loop [5,6] (fun p i => ∃ k:Nat,k <= q /\ i = .int .i64 (k:Int) /\ p = .int .u8 ((Gf.ipw a k:Nat):Int)) (fun _ i => 255 - (intOf i).toNat)
     case atStart => exact ⟨0,by omega,rfl,rfl⟩
     case round =>
       obtain ⟨k,hk,rfl,rfl⟩:=hrel
       have hp:=Gf.ipw_lt a k
       by_cases hlt:k < q
       · have hs:Gf.ipw a (k + 1) = Gf.mul (Gf.ipw a k) a:=rfl
         have HS:=Lib.hid hs; clear hs
         go_wp2_with fail
         refine (mul_ret (Gf.ipw a k) a _ (by omega) h1).mono ?_
         rintro e w' ⟨rfl,rfl⟩
         go_wp2_with fail
         go_round
         case rel => exact ⟨k + 1,by omega,by go_num,by rw [HS.out]⟩
         case measure => simp [intOf]; omega
       · obtain rfl:k = q:=by omega
         go_wp2_with fail
         go_ret
         rw [HZ.out]; exact ⟨rfl,rfl⟩
end RefField
section
variable {P:Program} (w:World)
theorem run_eqArr_list (d:Nat) (e:TypeId) (len:Nat) (k:IntKind) (X Y:Array Value) (x y:Nat -> Int) (he:P.underlying e = some (.int k))
   (ha:∀ w,(isAgg e).run P w = .ok false w) (hX:∀ i,i < len -> X[i]? = some (.int k (x i))) (hY:∀ i,i < len -> Y[i]? = some (.int k (y i))) (L:List Nat) (hL:∀ i ∈ L,i < len) :
   Sem.run P (forIn L ((none : Option Bool), ()) fun i __s => do
           let a <- part e X (i * 1)
           let b <- part e Y (i * 1)
           let c <- Op.equalIn (d + 1) e a b
           if (!c) = true then pure (ForInStep.done (some false,())) else pure (ForInStep.yield (none,()))) w = .ok (if (L.all fun i => x i == y i) = true then (none,()) else (some false,())) w:=by
 induction L with
 | nil => simp
 | cons i L ih =>
   have hi:=hL i (by simp)
   have h1:∀ Z:Array Value,∀ z,Z[i]? = some z -> (part e Z (i * 1)).run P w = .ok z w:=fun Z z hz => by
     unfold part
     simp [ha,hz]
   simp only [List.forIn_cons,Sem.run_bind,h1 X _ (hX i hi),h1 Y _ (hY i hi),Result.andThen_ok,run_equalIn_int w d e k k _ _ he,List.all_cons]
   have h2:=ih (fun j hj => hL j (by simp [hj]))
   by_cases hc:x i = y i
   · have hb:(x i == y i) = true:=beq_iff_eq.2 hc
     simp only [hb,Bool.not_true,Bool.false_eq_true,if_false,Sem.run_pure,Result.andThen_ok,Bool.true_and]
     exact h2
   · have hb:(x i == y i) = false:=beq_eq_false_iff_ne.2 hc
     simp [hb]
theorem run_equalIn_array (d:Nat) (t e:TypeId) (len:Nat) (k:IntKind) (X Y:Array Value) (x y:Nat -> Int) (ht:P.underlying t = some (.array len e)) (he:P.underlying e = some (.int k))
   (hs:∀ w,(Go.sizeOf e).run P w = .ok 1 w) (ha:∀ w,(isAgg e).run P w = .ok false w) (hX:∀ i,i < len -> X[i]? = some (.int k (x i))) (hY:∀ i,i < len -> Y[i]? = some (.int k (y i))) :
   (Op.equalIn (d + 2) t (.agg X) (.agg Y)).run P w = .ok ((List.range len).all fun i => x i == y i) w:=by
 rw [Op.equalIn]
 simp only [Sem.run_bind,run_underlying ht,Result.andThen_ok,hs]
 have hr:List.range' 0 len 1 = List.range len:=List.range_eq_range'.symm
 first
   | rw [Std.Legacy.Range.forIn_eq_forIn_range']
   | rw [Std.Range.forIn_eq_forIn_range']
 simp only [Std.Legacy.Range.size,Nat.sub_zero,Nat.div_one,Nat.add_one_sub_one]
 rw [hr,run_eqArr_list w d e len k X Y x y he ha hX hY _ (fun i hi => List.mem_range.1 hi)]
 by_cases hc:((List.range len).all fun i => x i == y i) = true
 · rw [if_pos hc,hc]; simp
 · rw [if_neg hc,Bool.eq_false_iff.2 hc]; simp
end
end Go.Proofs.YtddlaafpianjbaaGreatDoor
