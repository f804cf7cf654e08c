import Derived.Test.YtcdjfmlanicjlaaGreatDoorSl15
import Derived.Lib.Split
set_option maxRecDepth 100000
namespace Go.Proofs.YtcdjfmlanicjlaaGreatDoor
open Go.RowKit
namespace Sp
open Cut
def splB (c:UInt8):Nat -> ByteArray -> List ByteArray
 | 0,s => [s]
 | k + 1,s => if c ∈ s.data.toList then s.extract 0 (Lib.indexByte s.data.toList c).toNat :: splB c k (s.extract ((Lib.indexByte s.data.toList c).toNat + 1) s.size) else [s]
theorem at_ex (l:List UInt8) (c:UInt8) (h:c ∈ l):∃ k,At l c k /\ l = l.take k ++ c :: l.drop (k + 1) /\ c ∉ l.take k:=by
 induction l with
 | nil => cases h
 | cons x l ih =>
   by_cases hx:x = c
   · subst hx
     exact ⟨0,⟨rfl,fun j hj => absurd hj (Nat.not_lt_zero _)⟩,rfl,List.not_mem_nil⟩
   · have h2:c ∈ l:=by
       rcases List.mem_cons.1 h with h | h
       · exact absurd h.symm hx
       · exact h
     obtain ⟨k,⟨h3,h4⟩,h5,h6⟩:=ih h2
     refine ⟨k + 1,⟨h3,fun j hj => ?_⟩, ?_, ?_⟩
     · cases j with
       | zero => simp [hx]
       | succ j => have:=h4 j (by omega); simpa using this
     · show x :: l = x :: (l.take k ++ c :: l.drop (k + 1))
       rw [<- h5]
     · rw [List.take_succ_cons]
       intro h7
       rcases List.mem_cons.1 h7 with h7 | h7
       · exact hx h7.symm
       · exact h6 h7
theorem splN_hit (c:UInt8) (k:Nat) (a b:List UInt8) (h:c ∉ a):splN c (k + 2) (a ++ c :: b) = a :: splN c (k + 1) b:=by
 unfold splN
 rw [pcs_cut c a b h]
 have e1:k + 2 - 1 = k + 1:=by omega
 have e2:k + 1 - 1 = k:=by omega
 rw [e1,e2,List.take_succ_cons,List.drop_succ_cons,List.length_cons]
 by_cases h2:k < (pcs c b).length
 · rw [if_pos h2,if_pos (by omega)]; rfl
 · rw [if_neg h2,if_neg (by omega)]; rfl
theorem splN_miss (c:UInt8) (k:Nat) (l:List UInt8) (h:c ∉ l):splN c (k + 1) l = [l]:=by
 cases k with
 | zero =>
   unfold splN
   have h1:0 < (pcs c l).length:=List.length_pos_iff.2 (pcs_ne c l)
   show [] ++ (if 0 < (pcs c l).length then [joinC c (pcs c l)] else []) = [l]
   rw [if_pos h1,join_pcs]; rfl
 | succ k => rw [splN_all c _ _ (by rw [pcs_one c l h]; show 1 <= _; omega),pcs_one c l h]
theorem splB_list (c:UInt8):∀ (k:Nat) (s:ByteArray),(splB c k s).map (·.data.toList) = splN c (k + 1) s.data.toList:=by
 intro k
 induction k with
 | zero =>
   intro s
   have h1:0 < (pcs c s.data.toList).length:=List.length_pos_iff.2 (pcs_ne c _)
   show [s.data.toList] = [] ++ (if 0 < (pcs c s.data.toList).length then [joinC c (pcs c s.data.toList)] else [])
   rw [if_pos h1,join_pcs]; rfl
 | succ k ih =>
   intro s
   unfold splB
   by_cases h:c ∈ s.data.toList
   · rw [if_pos h]
     obtain ⟨j,h1,h2,h3⟩:=at_ex _ c h
     have hj:=at_index _ c j h1
     have hlt:j < s.data.toList.length:=(List.getElem?_eq_some_iff.1 h1.1).1
     rw [hj,Int.toNat_natCast,List.map_cons,ih]
     have e1:(s.extract 0 j).data.toList = s.data.toList.take j:=Lib.extract_from_zero s j
     have e2:(s.extract (j + 1) s.size).data.toList = s.data.toList.drop (j + 1):=by
       rw [ByteArray.data_extract,Array.toList_extract]
       unfold List.extract
       have hz:s.size = s.data.toList.length:=rfl
       rw [List.take_of_length_le (by rw [List.length_drop]; omega)]
     rw [e1,e2]
     conv => rhs; rw [h2]
     rw [splN_hit c k _ _ h3]
   · rw [if_neg h,splN_miss c _ _ h]; rfl
theorem splB_len (c:UInt8):∀ (k:Nat) (s:ByteArray),(splB c k s).length <= k + 1 /\ 1 <= (splB c k s).length:=by
 intro k
 induction k with
 | zero => intro s; exact ⟨Nat.le_refl _,Nat.le_refl _⟩
 | succ k ih =>
   intro s
   unfold splB
   split
   · have:=ih (s.extract ((Lib.indexByte s.data.toList c).toNat + 1) s.size)
     rw [List.length_cons]
     omega
   · exact ⟨by show 1 <= _; omega,Nat.le_refl _⟩
theorem splB_le (c:UInt8):∀ (k:Nat) (s:ByteArray),∀ x ∈ splB c k s,x.size <= s.size:=by
 intro k
 induction k with
 | zero => intro s x hx; rw [List.mem_singleton.1 hx]; exact Nat.le_refl _
 | succ k ih =>
   intro s x hx
   unfold splB at hx
   split at hx
   · rcases List.mem_cons.1 hx with rfl | hx
     · rw [ByteArray.size_extract]; omega
     · have:=ih _ x hx
       rw [ByteArray.size_extract] at this
       omega
   · rw [List.mem_singleton.1 hx]; exact Nat.le_refl _
end Sp
end Go.Proofs.YtcdjfmlanicjlaaGreatDoor
