import Derived.Test.YtcdjfmlanicjlaaGreatDoorSl3
import Derived.Laws.CopyOwn
import Derived.Lib.SlBuf
import Derived.Test.YtcdjfmlanicjlaaGreatDoorSl42
set_option maxRecDepth 100000
namespace Go.Proofs.YtcdjfmlanicjlaaGreatDoor
open Go.RowKit
end Go.Proofs.YtcdjfmlanicjlaaGreatDoor
set_option maxRecDepth 100000
namespace Go.Proofs.YtcdjfmlanicjlaaGreatDoor
open Go.RowKit
namespace Tree
open Tlv Strs
end Tree
namespace Tree
open Tlv Strs
structure DP (N:List Nd) (Lv:List Nat) (i:Nat) (f:Nat -> Nat):Prop where
 old:∀ a,a < i -> Lv[a]? = some (f a)
 new:∀ a,i <= a -> a < N.length -> ∀ p x,p < i -> N[p]? = some x -> (a:Int) ∈ x.k -> Lv[a]? = some (f a + 1)
 root:i = 0 -> f 0 = 0
structure DQ (N:List Nd) (Lv:List Nat) (i:Nat) (f:Nat -> Nat) (ks:List Int):Prop where
 old:∀ a,a <= i -> Lv[a]? = some (f a)
 new:∀ a,i < a -> a < N.length -> ∀ p x,p < i -> N[p]? = some x -> (a:Int) ∈ x.k -> Lv[a]? = some (f a + 1)
 kid:∀ a:Nat,(a:Int) ∈ ks -> Lv[a]? = some (f a + 1)
end Tree
namespace Tree
open Tlv Strs Rw
structure Fair (N:List Nd):Prop where
 len:N.length <= 1000
 kids:∀ x ∈ N,x.k.length <= 100000
 nums:∀ x ∈ N,∀ a ∈ x.k,-1000000 <= a /\ a <= 1000000
end Tree
end Go.Proofs.YtcdjfmlanicjlaaGreatDoor
namespace Go.Proofs.YtcdjfmlanicjlaaGreatDoor
namespace Tree
open Tlv
def parts:F -> List F
 | .nil => []
 | .prim c t d nx => .prim c t d .nil :: parts nx
 | .cons c t ks nx => .cons c t ks .nil :: parts nx
def join:List F -> F
 | [] => .nil
 | g :: l => g.app (join l)
end Tree
end Go.Proofs.YtcdjfmlanicjlaaGreatDoor
namespace Go.Proofs.YtcdjfmlanicjlaaGreatDoor
namespace Tlv
end Tlv
end Go.Proofs.YtcdjfmlanicjlaaGreatDoor
namespace Go.Proofs.YtcdjfmlanicjlaaGreatDoor
namespace Tree
open Tlv
end Tree
end Go.Proofs.YtcdjfmlanicjlaaGreatDoor
namespace Go.Proofs.YtcdjfmlanicjlaaGreatDoor
namespace Atm
open Tlv Tree Strs
abbrev AP2:=Int × ByteArray
def under:List Int:=[1,3,6,1,4,1,99999,7]
def arcsA (t:Int):List Int:=under ++ [t]
def nmA (t:Int):ByteArray:=bs (Oid.enc (arcsA t))
def attF (p:AP2):F:=.cons 0 16 (.prim 0 6 (nmA p.1) (.cons 0 17 (.prim 0 4 p.2 .nil) .nil)) .nil
def attN (p:AP2):List Nd:=(attF p).flat 0
end Atm
end Go.Proofs.YtcdjfmlanicjlaaGreatDoor
namespace Go.Proofs.YtcdjfmlanicjlaaGreatDoor
namespace Atm
open Att
def Ok1 (p:A2):Prop:=1 <= p.1 /\ p.1 <= 65535 /\ p.2.size <= 255
def Up (L:List A2):Prop:=L.Pairwise (fun p q => p.1 < q.1)
theorem le_prev (L:List A2) (k:Nat) (hk:k <= L.length) (h:Up (L.take k)):∀ a ∈ L.take k,a.1 <= prevA L k:=by
 intro a ha
 cases k with
 | zero => rw [List.take_zero] at ha; cases ha
 | succ j =>
   obtain ⟨⟨t,s⟩,hp⟩:∃ p,L[j]? = some p:=⟨_,List.getElem?_eq_getElem (by omega)⟩
   rw [prevA_at L j t s hp]
   unfold Up at h
   rw [take_snoc L j _ hp] at h ha
   rw [List.pairwise_append] at h
   rcases List.mem_append.1 ha with ha | ha
   · exact Int.le_of_lt (h.2.2 a ha _ (List.mem_singleton.2 rfl))
   · rw [List.mem_singleton.1 ha]; exact Int.le_refl _
theorem prev_mem (L:List A2) (k:Nat) (hk:k <= L.length):prevA L k = 0 ∨ ∃ a ∈ L.take k,a.1 = prevA L k:=by
 cases k with
 | zero => exact Or.inl rfl
 | succ j =>
   obtain ⟨⟨t,s⟩,hp⟩:∃ p,L[j]? = some p:=⟨_,List.getElem?_eq_getElem (by omega)⟩
   refine Or.inr ⟨(t,s), ?_,(prevA_at L j t s hp).symm⟩
   rw [take_snoc L j _ hp]
   exact List.mem_append_right _ (List.mem_singleton.2 rfl)
theorem attN_iff (L:List A2):∀ k,k <= L.length -> (Att.attN L k = true ↔ Up (L.take k) /\ ∀ p ∈ L.take k,Ok1 p):=by
 intro k
 induction k with
 | zero => intro _; exact ⟨fun _ => ⟨List.Pairwise.nil,fun p hp => by rw [List.take_zero] at hp; cases hp⟩,fun _ => rfl⟩
 | succ k ih =>
   intro hk
   replace ih:=ih (by omega)
   obtain ⟨p,hp⟩:∃ p,L[k]? = some p:=⟨_,List.getElem?_eq_getElem (by omega)⟩
   have h9:stepA L k p = true ↔ prevA L k < p.1 /\ p.1 <= 65535 /\ p.2.size <= 255:=by
     unfold stepA
     rw [Bool.and_eq_true,Bool.and_eq_true,decide_eq_true_eq,decide_eq_true_eq,decide_eq_true_eq,and_assoc]
   rw [attN_step L k p hp,take_snoc L k p hp,Bool.and_eq_true,h9]
   constructor
   · rintro ⟨h1,h2,h3,h4⟩
     have h0:=(attN_all L k h1).1
     obtain ⟨u1,u2⟩:=ih.1 h1
     have hm:=le_prev L k (by omega) u1
     refine ⟨List.pairwise_append.2 ⟨u1,List.pairwise_singleton _ _,fun a ha b hb => ?_⟩,fun q hq => ?_⟩
     · rw [List.mem_singleton.1 hb]
       have:=hm a ha
       omega
     · rcases List.mem_append.1 hq with hq | hq
       · exact u2 q hq
       · rw [List.mem_singleton.1 hq]
         exact ⟨by omega,h3,h4⟩
   · rintro ⟨u1,u2⟩
     obtain ⟨u3,-,u4⟩:=List.pairwise_append.1 u1
     have u5:=u2 p (List.mem_append_right _ (List.mem_singleton.2 rfl))
     refine ⟨ih.2 ⟨u3,fun q hq => u2 q (List.mem_append_left _ hq)⟩, ?_,u5.2.1,u5.2.2⟩
     rcases prev_mem L k (by omega) with h | ⟨a,ha,h⟩
     · rw [h]; have:=u5.1; omega
     · rw [<- h]; exact u4 a ha p (List.mem_singleton.2 rfl)
theorem attOk_iff (L:List A2):attOk L = true ↔ L.length <= 32 /\ Up L /\ ∀ p ∈ L,Ok1 p:=by
 unfold attOk
 rw [Bool.and_eq_true,decide_eq_true_eq,attN_iff L L.length (Nat.le_refl _),List.take_length]
def withA (L:List A2) (a:A2):List A2:=L.take (L.findIdx fun p => decide (a.1 < p.1)) ++ a :: L.drop (L.findIdx fun p => decide (a.1 < p.1))
def fldA (ps:List A2):List A2:=ps.foldl withA []
def tags (ps:List A2):List Int:=ps.map Prod.fst
def unpB (ps:List A2):Bool:=decide (tags ps).Nodup && decide (ps.length <= 32)
end Atm
end Go.Proofs.YtcdjfmlanicjlaaGreatDoor
