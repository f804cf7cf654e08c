/- The reference's Cut, Pieces, Zeros, Pad, Trim. -/
import Derived.Test.YtoblmddnefmpoaaOct3
namespace Go.Proofs.Ytoblmddnefmpoaa
open Go.RowKit
namespace RefOct

theorem one_ext (s : ByteArray) (j : Nat) (h : j < s.size) : (s.extract j (j + 1)).data.toList = [s[j]] := by
  rw [ext_list, Nat.add_sub_cancel_left, List.drop_eq_getElem_cons (show j < s.data.toList.length from h)]
  rfl
theorem snoc_ext (O s : ByteArray) (a k j : Nat) (hO : O.data.toList = (s.data.toList.drop a).take k) (hj : j = a + k) (h : j < s.size) : (O ++ s.extract j (j + 1)).data.toList = (s.data.toList.drop a).take (k + 1) := by
  subst hj
  rw [app_list, hO, one_ext s _ h, List.take_succ_eq_append_getElem (by simp; have h9 : s.size = s.data.toList.length := rfl; omega)]
  simp
  rfl




theorem zeros_app (s : ByteArray) (n : Nat) : s ++ strOfNums (List.replicate n 0) = bs (s.data.toList ++ List.replicate n 0) := by
  apply ba_ext
  rw [app_list, show (strOfNums (List.replicate n 0)).data.toList = List.replicate n 0 from by rw [nums_list]; simp, list_bs]



end RefOct
end Go.Proofs.Ytoblmddnefmpoaa
