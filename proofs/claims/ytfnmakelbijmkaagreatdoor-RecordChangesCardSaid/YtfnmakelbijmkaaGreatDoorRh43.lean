import Derived.Test.YtfnmakelbijmkaaGreatDoorRh42
import Derived.Test.YtfnmakelbijmkaaGreatDoorRh22
set_option maxRecDepth 100000
namespace Go.Proofs.YtfnmakelbijmkaaGreatDoor
open Go.RowKit
namespace Tree
open Tlv Strs
end Tree
namespace Tree
open Tlv Strs
structure DP (N:List Nd) (Lv:List Nat) (i:Nat) (f:Nat -> Nat):Prop where
 old:∀ a,a < i -> Lv[a]? = some (f a)
 new:∀ a,i <= a -> a < N.length -> ∀ p x,p < i -> N[p]? = some x -> (a:Int) ∈ x.k -> Lv[a]? = some (f a + 1)
 root:i = 0 -> f 0 = 0
structure DQ (N:List Nd) (Lv:List Nat) (i:Nat) (f:Nat -> Nat) (ks:List Int):Prop where
 old:∀ a,a <= i -> Lv[a]? = some (f a)
 new:∀ a,i < a -> a < N.length -> ∀ p x,p < i -> N[p]? = some x -> (a:Int) ∈ x.k -> Lv[a]? = some (f a + 1)
 kid:∀ a:Nat,(a:Int) ∈ ks -> Lv[a]? = some (f a + 1)
end Tree
namespace Tree
open Tlv Strs Rw
structure Fair (N:List Nd):Prop where
 len:N.length <= 1000
 kids:∀ x ∈ N,x.k.length <= 100000
 nums:∀ x ∈ N,∀ a ∈ x.k,-1000000 <= a /\ a <= 1000000
end Tree
end Go.Proofs.YtfnmakelbijmkaaGreatDoor
namespace Go.Proofs.YtfnmakelbijmkaaGreatDoor
namespace Tree
open Tlv
def parts:F -> List F
 | .nil => []
 | .prim c t d nx => .prim c t d .nil :: parts nx
 | .cons c t ks nx => .cons c t ks .nil :: parts nx
def join:List F -> F
 | [] => .nil
 | g :: l => g.app (join l)
end Tree
end Go.Proofs.YtfnmakelbijmkaaGreatDoor
namespace Go.Proofs.YtfnmakelbijmkaaGreatDoor
namespace Tlv
end Tlv
end Go.Proofs.YtfnmakelbijmkaaGreatDoor
namespace Go.Proofs.YtfnmakelbijmkaaGreatDoor
namespace Tree
open Tlv
end Tree
end Go.Proofs.YtfnmakelbijmkaaGreatDoor
namespace Go.Proofs.YtfnmakelbijmkaaGreatDoor
namespace Atm
open Tlv Tree Strs
abbrev AP2:=Int × ByteArray
def under:List Int:=[1,3,6,1,4,1,99999,7]
def arcsA (t:Int):List Int:=under ++ [t]
def nmA (t:Int):ByteArray:=bs (Oid.enc (arcsA t))
def attF (p:AP2):F:=.cons 0 16 (.prim 0 6 (nmA p.1) (.cons 0 17 (.prim 0 4 p.2 .nil) .nil)) .nil
def attN (p:AP2):List Nd:=(attF p).flat 0
end Atm
end Go.Proofs.YtfnmakelbijmkaaGreatDoor
namespace Go.Proofs.YtfnmakelbijmkaaGreatDoor
namespace Atm
open Att
def Ok1 (p:A2):Prop:=1 <= p.1 /\ p.1 <= 65535 /\ p.2.size <= 255
def Up (L:List A2):Prop:=L.Pairwise (fun p q => p.1 < q.1)
theorem le_prev (L:List A2) (k:Nat) (hk:k <= L.length) (h:Up (L.take k)):∀ a ∈ L.take k,a.1 <= prevA L k:=by
 intro a ha
 cases k with
 | zero => rw [List.take_zero] at ha; cases ha
 | succ j =>
   obtain ⟨⟨t,s⟩,hp⟩:∃ p,L[j]? = some p:=⟨_,List.getElem?_eq_getElem (by omega)⟩
   rw [prevA_at L j t s hp]
   unfold Up at h
   rw [take_snoc L j _ hp] at h ha
   rw [List.pairwise_append] at h
   rcases List.mem_append.1 ha with ha | ha
   · exact Int.le_of_lt (h.2.2 a ha _ (List.mem_singleton.2 rfl))
   · rw [List.mem_singleton.1 ha]; exact Int.le_refl _
theorem prev_mem (L:List A2) (k:Nat) (hk:k <= L.length):prevA L k = 0 ∨ ∃ a ∈ L.take k,a.1 = prevA L k:=by
 cases k with
 | zero => exact Or.inl rfl
 | succ j =>
   obtain ⟨⟨t,s⟩,hp⟩:∃ p,L[j]? = some p:=⟨_,List.getElem?_eq_getElem (by omega)⟩
   refine Or.inr ⟨(t,s), ?_,(prevA_at L j t s hp).symm⟩
   rw [take_snoc L j _ hp]
   exact List.mem_append_right _ (List.mem_singleton.2 rfl)
theorem attN_iff (L:List A2):∀ k,k <= L.length -> (Att.attN L k = true ↔ Up (L.take k) /\ ∀ p ∈ L.take k,Ok1 p):=by
 intro k
 induction k with
 | zero => intro _; exact ⟨fun _ => ⟨List.Pairwise.nil,fun p hp => by rw [List.take_zero] at hp; cases hp⟩,fun _ => rfl⟩
 | succ k ih =>
   intro hk
   replace ih:=ih (by omega)
   obtain ⟨p,hp⟩:∃ p,L[k]? = some p:=⟨_,List.getElem?_eq_getElem (by omega)⟩
   have h9:stepA L k p = true ↔ prevA L k < p.1 /\ p.1 <= 65535 /\ p.2.size <= 255:=by
     unfold stepA
     rw [Bool.and_eq_true,Bool.and_eq_true,decide_eq_true_eq,decide_eq_true_eq,decide_eq_true_eq,and_assoc]
   rw [attN_step L k p hp,take_snoc L k p hp,Bool.and_eq_true,h9]
   constructor
   · rintro ⟨h1,h2,h3,h4⟩
     have h0:=(attN_all L k h1).1
     obtain ⟨u1,u2⟩:=ih.1 h1
     have hm:=le_prev L k (by omega) u1
     refine ⟨List.pairwise_append.2 ⟨u1,List.pairwise_singleton _ _,fun a ha b hb => ?_⟩,fun q hq => ?_⟩
     · rw [List.mem_singleton.1 hb]
       have:=hm a ha
       omega
     · rcases List.mem_append.1 hq with hq | hq
       · exact u2 q hq
       · rw [List.mem_singleton.1 hq]
         exact ⟨by omega,h3,h4⟩
   · rintro ⟨u1,u2⟩
     obtain ⟨u3,-,u4⟩:=List.pairwise_append.1 u1
     have u5:=u2 p (List.mem_append_right _ (List.mem_singleton.2 rfl))
     refine ⟨ih.2 ⟨u3,fun q hq => u2 q (List.mem_append_left _ hq)⟩, ?_,u5.2.1,u5.2.2⟩
     rcases prev_mem L k (by omega) with h | ⟨a,ha,h⟩
     · rw [h]; have:=u5.1; omega
     · rw [<- h]; exact u4 a ha p (List.mem_singleton.2 rfl)
theorem attOk_iff (L:List A2):attOk L = true ↔ L.length <= 32 /\ Up L /\ ∀ p ∈ L,Ok1 p:=by
 unfold attOk
 rw [Bool.and_eq_true,decide_eq_true_eq,attN_iff L L.length (Nat.le_refl _),List.take_length]
def withA (L:List A2) (a:A2):List A2:=L.take (L.findIdx fun p => decide (a.1 < p.1)) ++ a :: L.drop (L.findIdx fun p => decide (a.1 < p.1))
def dropA (L:List A2) (t:Int):List A2:=L.filter fun p => p.1 != t
def setA (L:List A2) (a:A2):List A2:=withA (dropA L a.1) a
theorem with_lt (p:A2) (L:List A2) (a:A2) (h:a.1 < p.1):withA (p :: L) a = a :: p :: L:=by
 unfold withA
 rw [List.findIdx_cons,decide_eq_true h]
 rfl
theorem with_ge (p:A2) (L:List A2) (a:A2) (h:¬ a.1 < p.1):withA (p :: L) a = p :: withA L a:=by
 unfold withA
 rw [List.findIdx_cons,decide_eq_false h]
 rfl
theorem drop_ne (p:A2) (L:List A2) (t:Int) (h:p.1 ≠ t):dropA (p :: L) t = p :: dropA L t:=by
 unfold dropA
 rw [List.filter_cons,if_pos (by simpa using h)]
theorem drop_eq (p:A2) (L:List A2) (t:Int) (h:p.1 = t):dropA (p :: L) t = dropA L t:=by
 unfold dropA
 rw [List.filter_cons,if_neg (by simpa using h)]
theorem drop_all (L:List A2) (t:Int) (h:∀ p ∈ L,p.1 ≠ t):dropA L t = L:=List.filter_eq_self.2 fun p hp => by simpa using h p hp
theorem idx_first (L:List A2) (P:A2 -> Bool) (h:∀ p ∈ L,P p = true):L.findIdx P = 0:=by
 cases L with
 | nil => rfl
 | cons p l => rw [List.findIdx_cons,h p (List.mem_cons_self ..)]; rfl
theorem set_cut (L:List A2) (a:A2) (h:Up L):L.take (L.findIdx fun p => decide (a.1 <= p.1)) ++ [a] ++ L.drop (L.findIdx fun p => decide (a.1 < p.1)) = setA L a:=by
 induction L with
 | nil => rfl
 | cons p l ih =>
   obtain ⟨h1,h2⟩:=List.pairwise_cons.1 h
   replace ih:=ih h2
   unfold setA at ih ⊢
   rw [List.findIdx_cons,List.findIdx_cons]
   rcases Int.lt_trichotomy p.1 a.1 with hl | hl | hl
   · rw [decide_eq_false (by omega),decide_eq_false (by omega),drop_ne p l _ (by omega),with_ge p _ a (by omega),<- ih]
     rfl
   · have hf:l.findIdx (fun q => decide (a.1 < q.1)) = 0:=idx_first _ _ fun q hq => decide_eq_true (by have:=h1 q hq; omega)
     rw [decide_eq_true (by omega),decide_eq_false (by omega),drop_eq p l _ hl,drop_all l _ (fun q hq => by have:=h1 q hq; omega),hf]
     unfold withA
     rw [hf]
     rfl
   · rw [decide_eq_true (by omega),decide_eq_true (by omega),drop_ne p l _ (by omega),with_lt p _ a hl,drop_all l _ (fun q hq => by have:=h1 q hq; omega)]
     rfl
theorem drop_cut (L:List A2) (t:Int) (h:Up L):L.take (L.findIdx fun p => p.1 == t) ++ L.drop ((L.findIdx fun p => p.1 == t) + 1) = dropA L t:=by
 induction L with
 | nil => rfl
 | cons p l ih =>
   obtain ⟨h1,h2⟩:=List.pairwise_cons.1 h
   replace ih:=ih h2
   rw [List.findIdx_cons]
   by_cases hl:p.1 = t
   · rw [beq_iff_eq.2 hl,drop_eq p l _ hl,drop_all l _ (fun q hq => by have:=h1 q hq; omega)]
     rfl
   · rw [beq_eq_false_iff_ne.2 hl,drop_ne p l _ hl,<- ih]
     rfl
theorem with_perm (L:List A2) (a:A2):(withA L a).Perm (a :: L):=by
 induction L with
 | nil => exact List.Perm.refl _
 | cons p l ih =>
   by_cases h:a.1 < p.1
   · rw [with_lt p l a h]
   · rw [with_ge p l a h]
     exact (List.Perm.cons p ih).trans (List.Perm.swap a p l)
def fldA (ps:List A2):List A2:=ps.foldl withA []
def tags (ps:List A2):List Int:=ps.map Prod.fst
def unpB (ps:List A2):Bool:=decide (tags ps).Nodup && decide (ps.length <= 32)
end Atm
end Go.Proofs.YtfnmakelbijmkaaGreatDoor
