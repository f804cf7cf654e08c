import Derived.WalkSpells
import Derived.WalkLawsBesides
import Derived.Lib.Hide
import Derived.Test.YtcdjfmlanicjlaaGreatDoorSl2
set_option maxRecDepth 100000
namespace Go.Proofs.YtcdjfmlanicjlaaGreatDoor
open Go.RowKit
def Ret (f:Nat) (args:Array Value) (v:Value):Prop:=∀ w,Calls Tryz.prog f args w fun e w' => e = .returned v /\ w = w'
theorem Ret.calls {f:Nat} {args:Array Value} {v:Value} (h:Ret f args v) {w:World} {R:Ending -> World -> Prop} (k:R (.returned v) w):Calls Tryz.prog f args w R :=
 (h w).mono fun _ _ ⟨he,hw⟩ => by subst he; subst hw; exact k
def Mak (f:Nat) (args:Array Value) (v:Value):Prop:=∀ w,Calls Tryz.prog f args w fun e w' => e = .returned v /\ Below w.heap.size w w'
theorem Ret.mak {f:Nat} {args:Array Value} {v:Value} (h:Ret f args v):Mak f args v :=
 fun w => (h w).mono fun _ _ ⟨he,hw⟩ => by subst he; subst hw; exact ⟨rfl,Below.refl _ _⟩
def Since (W0 w:World):Prop:=Below W0.heap.size W0 w
theorem Since.refl (w:World):Since w w:=Below.refl _ _
theorem Since.step {W0 w w':World} (h:Since W0 w) (hb:Below w.heap.size w w'):Since W0 w':=Below.trans h (Below.mono hb (Below.size h))
theorem Since.alloc {W0 w:World} (h:Since W0 w) (o:Obj):Since W0 (w.alloc o):=Below.alloc h (Below.size h) o
theorem Since.drew {W0 w:World} (h:Since W0 w):Since W0 w.drew:=Below.drew h
theorem Mak.calls {f:Nat} {args:Array Value} {v:Value} (h:Mak f args v) {W0 w:World} (hs:Since W0 w) {R:Ending -> World -> Prop} (k:∀ w',Since W0 w' -> R (.returned v) w'):Calls Tryz.prog f args w R :=
 (h w).mono fun _ _ ⟨he,hb⟩ => by subst he; exact k _ (hs.step hb)
theorem Mak.calls0 {f:Nat} {args:Array Value} {v:Value} (h:Mak f args v) {w:World} {R:Ending -> World -> Prop} (k:∀ w',Below w.heap.size w w' -> R (.returned v) w'):Calls Tryz.prog f args w R :=
 (h w).mono fun _ _ ⟨he,hb⟩ => by subst he; exact k _ hb
end Go.Proofs.YtcdjfmlanicjlaaGreatDoor

namespace Go.Proofs.YtcdjfmlanicjlaaGreatDoor
class Up (a b : World) : Prop where up : ∀ {c}, Since b c → Since a c
instance (a : World) : Up a a := ⟨fun h => h⟩
instance (a : World) (o : Obj) : Up a (a.alloc o) := ⟨fun h => (Since.alloc (Since.refl _) _).step h⟩
instance (a : World) (o p : Obj) : Up a ((a.alloc o).alloc p) := ⟨fun h => (Since.alloc (Since.alloc (Since.refl _) _) _).step h⟩
instance (a : World) (o p q : Obj) : Up a (((a.alloc o).alloc p).alloc q) := ⟨fun h => (Since.alloc (Since.alloc (Since.alloc (Since.refl _) _) _) _).step h⟩
instance (a : World) : Up a a.drew := ⟨fun h => (Since.drew (Since.refl _)).step h⟩
theorem lH {p : Prop} (h : p) : RowKit.Hid p := Lib.hid h
end Go.Proofs.YtcdjfmlanicjlaaGreatDoor
namespace Go.Proofs.YtcdjfmlanicjlaaGreatDoor
namespace Sp
def joinC (c:UInt8):List (List UInt8) -> List UInt8
 | [] => []
 | [w] => w
 | w :: v :: ws => w ++ c :: joinC c (v :: ws)
def pcs (c:UInt8):List UInt8 -> List (List UInt8)
 | [] => [[]]
 | x :: s => if x = c then [] :: pcs c s else match pcs c s with
   | [] => [[x]]
   | w :: ws => (x :: w) :: ws
theorem pcs_ne (c:UInt8) (s:List UInt8):pcs c s ≠ []:=by
 cases s with
 | nil => exact List.cons_ne_nil _ _
 | cons x s =>
   unfold pcs
   split
   · exact List.cons_ne_nil _ _
   · split <;> exact List.cons_ne_nil _ _
theorem pcs_hit (c:UInt8) (s:List UInt8):pcs c (c :: s) = [] :: pcs c s:=by
 rw [pcs,if_pos rfl]
theorem pcs_app (c:UInt8) (w:List UInt8) (h:c ∉ w) (s:List UInt8):∃ v vs,pcs c s = v :: vs /\ pcs c (w ++ s) = (w ++ v) :: vs:=by
 obtain ⟨v,vs,hv⟩:∃ v vs,pcs c s = v :: vs:=by
   cases hp:pcs c s with
   | nil => exact absurd hp (pcs_ne c s)
   | cons v vs => exact ⟨v,vs,rfl⟩
 refine ⟨v,vs,hv, ?_⟩
 induction w with
 | nil => exact hv
 | cons x w ih =>
   have h1:=ih (fun h9 => h (List.mem_cons_of_mem _ h9))
   rw [List.cons_append,pcs,if_neg (fun h9 => h (by rw [h9]; exact List.mem_cons_self ..)),h1]
   rfl
theorem pcs_one (c:UInt8) (w:List UInt8) (h:c ∉ w):pcs c w = [w]:=by
 obtain ⟨v,vs,h1,h2⟩:=pcs_app c w h []
 rw [List.append_nil] at h2
 have h3:pcs c [] = [[]]:=rfl
 rw [h3] at h1
 cases h1
 rw [h2,List.append_nil]
theorem pcs_cut (c:UInt8) (w s:List UInt8) (h:c ∉ w):pcs c (w ++ c :: s) = w :: pcs c s:=by
 obtain ⟨v,vs,h1,h2⟩:=pcs_app c w h (c :: s)
 rw [pcs_hit] at h1
 cases h1
 rw [h2,List.append_nil]
theorem pcs_join (c:UInt8):∀ (ws:List (List UInt8)),ws ≠ [] -> (∀ w ∈ ws,c ∉ w) -> pcs c (joinC c ws) = ws
 | [],h,_ => absurd rfl h
 | [w],_,h => pcs_one c w (h w (List.mem_cons_self ..))
 | w :: v :: ws,_,h => by
   rw [joinC,pcs_cut c w _ (h w (List.mem_cons_self ..)),pcs_join c (v :: ws) (List.cons_ne_nil _ _) fun x hx => h x (List.mem_cons_of_mem _ hx)]
theorem pcs_free (c:UInt8) (s:List UInt8):∀ w ∈ pcs c s,c ∉ w:=by
 induction s with
 | nil =>
   intro w hw
   rw [List.mem_singleton.1 hw]
   exact List.not_mem_nil
 | cons x s ih =>
   intro w hw
   rw [pcs] at hw
   split at hw
   · rcases List.mem_cons.1 hw with rfl | hw
     · exact List.not_mem_nil
     · exact ih w hw
   · rename_i hx
     split at hw
     · rw [List.mem_singleton.1 hw]
       intro h9
       exact hx (List.mem_singleton.1 h9).symm
     · rename_i v vs hv
       rcases List.mem_cons.1 hw with rfl | hw
       · intro h9
         rcases List.mem_cons.1 h9 with h9 | h9
         · exact hx h9.symm
         · exact ih v (by rw [hv]; exact List.mem_cons_self ..) h9
       · exact ih w (by rw [hv]; exact List.mem_cons_of_mem _ hw)
theorem joinC_cons (c:UInt8) (w:List UInt8) (ws:List (List UInt8)) (h:ws ≠ []):joinC c (w :: ws) = w ++ c :: joinC c ws:=by
 cases ws with
 | nil => exact absurd rfl h
 | cons v vs => rfl
theorem join_pcs (c:UInt8) (s:List UInt8):joinC c (pcs c s) = s:=by
 induction s with
 | nil => rfl
 | cons x s ih =>
   rw [pcs]
   split
   · rename_i hx
     rw [joinC_cons c _ _ (pcs_ne c s),ih,hx]
     rfl
   · split
     · rename_i hp
       exact absurd hp (pcs_ne c s)
     · rename_i v vs hv
       rw [hv] at ih
       cases vs with
       | nil =>
         have h1:v = s:=ih
         rw [h1]
         rfl
       | cons u us =>
         rw [joinC_cons c _ _ (List.cons_ne_nil _ _)] at ih
         rw [joinC_cons c _ _ (List.cons_ne_nil _ _),List.cons_append,ih]
def splN (c:UInt8) (n:Nat) (s:List UInt8):List (List UInt8):=(pcs c s).take (n - 1) ++ (if n - 1 < (pcs c s).length then [joinC c ((pcs c s).drop (n - 1))] else [])
theorem splN_all (c:UInt8) (n:Nat) (s:List UInt8) (h:(pcs c s).length <= n):splN c n s = pcs c s:=by
 unfold splN
 by_cases h1:n - 1 < (pcs c s).length
 · have h2:n - 1 + 1 = (pcs c s).length:=by omega
   rw [if_pos h1]
   obtain ⟨y,hy⟩:∃ y,(pcs c s).drop (n - 1) = [y]:=by
     cases hd:(pcs c s).drop (n - 1) with
     | nil =>
       have:=congrArg List.length hd
       rw [List.length_drop] at this
       simp at this
       omega
     | cons y ys =>
       have:=congrArg List.length hd
       rw [List.length_drop] at this
       simp at this
       have h5:ys = []:=List.length_eq_zero_iff.1 (by omega)
       exact ⟨y,by rw [h5]⟩
   have h4:=List.take_append_drop (n - 1) (pcs c s)
   rw [hy] at h4
   rw [hy]
   exact h4
 · rw [if_neg h1,List.append_nil,List.take_of_length_le (by omega)]
end Sp
end Go.Proofs.YtcdjfmlanicjlaaGreatDoor
namespace Go.Proofs.YtcdjfmlanicjlaaGreatDoor
open Go.RowKit
namespace Dig
def val (c:Nat):Int:=if 48 <= c /\ c <= 57 then (c:Int) - 48 else if 65 <= c /\ c <= 70 then (c:Int) - 55 else -1
def sign (d:Nat):UInt8:=([48,49,50,51,52,53,54,55,56,57,65,66,67,68,69,70]:List UInt8).getD d 0
theorem sign_at (d:Nat) (h:d < (⟨#[48,49,50,51,52,53,54,55,56,57,65,66,67,68,69,70]⟩:ByteArray).size):(⟨#[48,49,50,51,52,53,54,55,56,57,65,66,67,68,69,70]⟩:ByteArray)[d] = sign d:=by
 have h':d < 16:=h
 rcases (show d = 0 ∨ d = 1 ∨ d = 2 ∨ d = 3 ∨ d = 4 ∨ d = 5 ∨ d = 6 ∨ d = 7 ∨ d = 8 ∨ d = 9 ∨ d = 10 ∨ d = 11 ∨ d = 12 ∨ d = 13 ∨ d = 14 ∨ d = 15 by omega) with rfl | rfl | rfl | rfl | rfl | rfl | rfl | rfl | rfl | rfl | rfl | rfl | rfl | rfl | rfl | rfl <;> rfl
theorem getD_at (s:ByteArray) (k:Nat) (h:k < s.size):s.data.toList.getD k 0 = s[k]:=by
 simp [List.getD,List.getElem?_eq_getElem (show k < s.data.toList.length from h)]; rfl
def hexL (l:List UInt8):List UInt8:=l.flatMap fun c => [sign (c.toNat / 16),sign (c.toNat % 16)]
def hexC (l:List UInt8) (j:Nat):Value:=.int .u8 (if j % 2 = 0 then ((sign ((l.getD (j / 2) 0).toNat / 16)).toNat:Int) else ((sign ((l.getD (j / 2) 0).toNat % 16)).toNat:Int))
theorem hexL_len (l:List UInt8):(hexL l).length = 2 * l.length:=by
 induction l with
 | nil => rfl
 | cons c l ih =>
   show (sign (c.toNat / 16) :: sign (c.toNat % 16) :: hexL l).length = _
   simp only [List.length_cons,ih]; omega
theorem hexL_get (l:List UInt8) (i:Nat) (hi:i < 2 * l.length):(hexL l)[i]? = some (if i % 2 = 0 then sign ((l.getD (i / 2) 0).toNat / 16) else sign ((l.getD (i / 2) 0).toNat % 16)):=by
 induction l generalizing i with
 | nil => simp at hi
 | cons c l ih =>
   have he:hexL (c :: l) = sign (c.toNat / 16) :: sign (c.toNat % 16) :: hexL l:=rfl
   rw [he]
   match i with
   | 0 => rfl
   | 1 => rfl
   | i + 2 =>
     show (hexL l)[i]? = _
     rw [ih i (by simp at hi; omega),show (i + 2) % 2 = i % 2 from by omega,show (i + 2) / 2 = i / 2 + 1 from by omega]
     rfl
theorem hexL_at (l:List UInt8) (i:Nat) (hi:i < 2 * l.length):some (hexC l i) = some (Value.int .u8 (((hexL l).map fun c => (c.toNat:Int)).getD i 0)):=by
 have h:=hexL_get l i hi
 unfold hexC
 have hm:((hexL l).map fun c => (c.toNat:Int)).getD i 0 = ((if i % 2 = 0 then sign ((l.getD (i / 2) 0).toNat / 16) else sign ((l.getD (i / 2) 0).toNat % 16)).toNat:Int):=by
   unfold List.getD; rw [List.getElem?_map]; unfold List.getD at h; rw [h]; rfl
 rw [hm]
 split <;> rfl
theorem val_lt (c:Nat):-1 <= val c /\ val c <= 15:=by unfold val; split <;> (try split) <;> omega
def hi (l:List UInt8) (j:Nat):Int:=val (l.getD (2 * j) 0).toNat
def lo (l:List UInt8) (j:Nat):Int:=val (l.getD (2 * j + 1) 0).toNat
def okN (l:List UInt8) (k:Nat):Bool:=(List.range k).all fun j => decide (0 <= hi l j) && decide (0 <= lo l j)
def pairV (l:List UInt8) (j:Nat):Int:=16 * hi l j + lo l j
def unB (l:List UInt8):Bool:=decide (l.length % 2 = 0) && okN l (l.length / 2)
def unS (l:List UInt8):ByteArray:=if unB l = true then strOfNums ((List.range (l.length / 2)).map (pairV l)) else ⟨#[]⟩
theorem okN_succ (l:List UInt8) (k:Nat):okN l (k + 1) = (okN l k && (decide (0 <= hi l k) && decide (0 <= lo l k))):=by
 unfold okN; rw [List.range_succ,List.all_append]; simp
theorem okN_le (l:List UInt8) (k m:Nat) (h:okN l m = true) (hk:k <= m):okN l k = true:=by
 unfold okN at *
 rw [List.all_eq_true] at *
 exact fun x hx => h x (List.mem_range.2 (by have:=List.mem_range.1 hx; omega))
theorem val_sign (c k:Nat) (hk:k < 16) (h:(sign k).toNat = c):val c = (k:Int):=by
 subst h
 rcases (show k = 0 ∨ k = 1 ∨ k = 2 ∨ k = 3 ∨ k = 4 ∨ k = 5 ∨ k = 6 ∨ k = 7 ∨ k = 8 ∨ k = 9 ∨ k = 10 ∨ k = 11 ∨ k = 12 ∨ k = 13 ∨ k = 14 ∨ k = 15 by omega) with rfl | rfl | rfl | rfl | rfl | rfl | rfl | rfl | rfl | rfl | rfl | rfl | rfl | rfl | rfl | rfl <;> decide +kernel
theorem no_all:(List.range 256).all (fun c => (List.range 16).any (fun k => (sign k).toNat == c) || val c == -1) = true:=by decide +kernel
theorem val_none (c:Nat) (hc:c < 256) (h:∀ k,k < 16 -> (sign k).toNat ≠ c):val c = -1:=by
 have h1:=List.all_eq_true.1 no_all c (List.mem_range.2 hc)
 rw [Bool.or_eq_true] at h1
 rcases h1 with h1 | h1
 · obtain ⟨k,hk,he⟩:=List.any_eq_true.1 h1
   exact absurd (beq_iff_eq.1 he) (h k (List.mem_range.1 hk))
 · exact beq_iff_eq.1 h1
end Dig
namespace Plain
end Plain
end Go.Proofs.YtcdjfmlanicjlaaGreatDoor
namespace Go
def Exit.jumps (J:Nat -> Act -> World -> Prop) (Q:Exit -> Act -> World -> Prop):Exit -> Act -> World -> Prop
 | .goto l,a,w => J l a w
 | e,a,w => Q e a w
section
variable {P:Program} {a:Act} {w:World} {Q:Exit -> Act -> World -> Prop}
def LabelWp (P:Program) (c:Code) (Q:Exit -> Act -> World -> Prop):Nat -> Nat -> Act -> World -> Prop
 | 0,_,_,_ => False
 | n + 1,l,a,w => ∃ rest,findLabel c l = some rest /\ rest.wp P (Exit.jumps (LabelWp P c Q n) Q) a w
theorem wp_scope_some {c:Code} (n:Nat) (first:c.wp P (Exit.jumps (LabelWp P c Q n) Q) a w):(Code.scope c).wp P Q a w:=by
 intro b k cs
 have hg:∀ l rest,findLabel c l = some rest -> gotoIn l (.inScope c :: k) = some (.code rest :: .inScope c :: k):=fun l rest hf => by simp [gotoIn,hf]
 have key:∀ n l a w,LabelWp P c Q n l a w -> ∃ rest,findLabel c l = some rest /\ ∃ e a' w',Q e a' w' /\ Arrives P (lone (b.at a (.code rest :: .inScope c :: k)) cs w) b k cs e a' w':=by
   intro n
   induction n with
   | zero => intro l a w h; exact h.elim
   | succ n ih =>
     intro l a w ⟨rest,hf,hw⟩
     refine ⟨rest,hf, ?_⟩
     obtain ⟨e,a₁,w₁,hq,harr⟩:=hw b (.inScope c :: k) cs
     cases e with
     | normal => exact ⟨.normal,a₁,w₁,hq,Steps.trans harr (.one step_inScope)⟩
     | exit id => exact ⟨.exit id,a₁,w₁,hq,fun k' hk => harr k' (by simp [exitTo,hk])⟩
     | goto l' =>
       obtain ⟨rest',hf',e₂,a₂,w₂,hq₂,harr₂⟩:=ih l' a₁ w₁ hq
       exact ⟨e₂,a₂,w₂,hq₂,.of_steps (harr _ (hg l' rest' hf')) harr₂⟩
     | ret => exact ⟨_,a₁,w₁,hq,harr⟩
     | panic ch => exact ⟨_,a₁,w₁,hq,harr⟩
     | outgrown => exact ⟨_,a₁,w₁,hq,harr⟩
 obtain ⟨e,a₁,w₁,hq,harr⟩:=first b (.inScope c :: k) cs
 cases e with
 | normal => exact ⟨.normal,a₁,w₁,hq,.head step_scope (Steps.trans harr (.one step_inScope))⟩
 | exit id => exact ⟨.exit id,a₁,w₁,hq,fun k' hk => .head step_scope (harr k' (by simp [exitTo,hk]))⟩
 | goto l' =>
   obtain ⟨rest',hf',e₂,a₂,w₂,hq₂,harr₂⟩:=key _ l' a₁ w₁ hq
   exact ⟨e₂,a₂,w₂,hq₂,.of_steps (.head step_scope (harr _ (hg l' rest' hf'))) harr₂⟩
 | ret => exact ⟨_,a₁,w₁,hq,.of_steps (.one step_scope) harr⟩
 | panic ch => exact ⟨_,a₁,w₁,hq,.of_steps (.one step_scope) harr⟩
 | outgrown => exact ⟨_,a₁,w₁,hq,.of_steps (.one step_scope) harr⟩
variable {J:Nat -> Act -> World -> Prop}
@[go_sem] theorem Exit.jumps_normal:Exit.jumps J Q .normal a w = Q .normal a w:=rfl
@[go_sem] theorem Exit.jumps_exit (id:Nat):Exit.jumps J Q (.exit id) a w = Q (.exit id) a w:=rfl
@[go_sem] theorem Exit.jumps_ret:Exit.jumps J Q .ret a w = Q .ret a w:=rfl
@[go_sem] theorem Exit.jumps_panic (ch:List PanicEntry):Exit.jumps J Q (.panic ch) a w = Q (.panic ch) a w:=rfl
end
end Go
namespace Go.Proofs.YtcdjfmlanicjlaaGreatDoor
open Go.RowKit
namespace Head
def first (c t:Nat) (b:Bool):Nat:=64 * c + (if b then 32 else 0) + t
def seg (t k:Nat):List UInt8:=if 2 ^ (7 * k) <= t then [UInt8.ofNat (128 + t / 2 ^ (7 * k) % 128)] else []
def tagL (c t:Nat) (b:Bool):List UInt8 :=
 if t < 31 then [UInt8.ofNat (first c t b)] else UInt8.ofNat (first c 31 b) :: (seg t 2 ++ seg t 1 ++ [UInt8.ofNat (t % 128)])
def lenL (n:Nat):List UInt8:=if n < 128 then [UInt8.ofNat n] else if n < 256 then [129,UInt8.ofNat n] else [130,UInt8.ofNat (n / 256),UInt8.ofNat (n % 256)]
def digR:List UInt8 -> Option (Nat × Nat)
 | [] => none
 | d :: r => if d.toNat < 128 then some (d.toNat,1) else match r with
   | [] => none
   | e :: q => if e.toNat < 128 then some (128 * (d.toNat - 128) + e.toNat,2) else match q with
     | [] => none
     | f :: _ => if f.toNat < 128 then some (128 * (128 * (d.toNat - 128) + (e.toNat - 128)) + f.toNat,3) else none
def tagR:List UInt8 -> Option (Nat × Nat × Bool × Nat)
 | [] => none
 | x :: l => if x.toNat % 32 < 31 then some (x.toNat / 64,x.toNat % 32,decide (x.toNat / 32 % 2 = 1),1) else
   match digR l with
   | none => none
   | some (t,k) => if tagL (x.toNat / 64) t (decide (x.toNat / 32 % 2 = 1)) = (x :: l).take (k + 1) then some (x.toNat / 64,t,decide (x.toNat / 32 % 2 = 1),k + 1) else none
def lenR:List UInt8 -> Nat × Nat × Nat
 | [] => (0,0,5)
 | x :: l => if x.toNat = 128 then (0,0,5) else if x.toNat < 128 then (x.toNat,1,0) else if 130 < x.toNat then (0,0,4) else
   if x.toNat = 129 then match l with
     | [] => (0,0,5)
     | d :: _ => if 128 <= d.toNat then (d.toNat,2,0) else (0,0,5)
   else match l with
     | d :: e :: _ => if 256 <= 256 * d.toNat + e.toNat then (256 * d.toNat + e.toNat,3,0) else (0,0,5)
     | _ => (0,0,5)
structure Hd where
 c:Nat
 t:Nat
 b:Bool
 n:Nat
def none0:Hd:=⟨0,0,false,0⟩
def dec (l:List UInt8):Hd × Nat × Nat:=match tagR l with
 | none => (none0,0,5)
 | some (c,t,b,k) => match lenR (l.drop k) with
   | (n,s,e) => if e = 0 then (⟨c,t,b,n⟩,k + s,0) else (none0,0,e)
def encL (c t:Nat) (b:Bool) (n:Nat):List UInt8:=tagL c t b ++ lenL n
end Head
end Go.Proofs.YtcdjfmlanicjlaaGreatDoor
namespace Go.Proofs.YtcdjfmlanicjlaaGreatDoor
namespace Flt
open Ieee
def fl (n:Int):Nat:=FloatKind.f64.nearest n
end Flt
end Go.Proofs.YtcdjfmlanicjlaaGreatDoor
namespace Go.Proofs.YtcdjfmlanicjlaaGreatDoor
namespace Setof
def ltB (a b:List UInt8):Bool:=decide (a < b)
def up (x y:List UInt8):Prop:=ltB y x = false
end Setof
end Go.Proofs.YtcdjfmlanicjlaaGreatDoor
