/- Joined texts. -/
-- PACK: YtlmnidpcdibnkaaOct3 YtlmnidpcdibnkaaRefOct3
import Derived.Test.YtlmnidpcdibnkaaSp4
import Derived.Test.YtlmnidpcdibnkaaSp5

/- octets.Pieces, octets.Trim. -/
namespace Go.Proofs.Ytlmnidpcdibnkaa
open Go.RowKit
namespace Oct

/-- piece number i of n bytes each -/
def pc (l : List UInt8) (n i : Nat) : ByteArray := bs ((l.drop (n * i)).take n)
def pcs (l : List UInt8) (n m : Nat) : List ByteArray := (List.range m).map (pc l n)
theorem pcs_len (l : List UInt8) (n m : Nat) : (pcs l n m).length = m := by simp [pcs]
theorem pcs_succ (l : List UInt8) (n m : Nat) : pcs l n (m + 1) = pcs l n m ++ [pc l n m] := by simp [pcs, List.range_succ]
def strLen : Value → Nat | .string r => r.size | _ => 0
theorem drop_ext (R : ByteArray) (l : List UInt8) (n k : Nat) (h : R.data.toList = l.drop (n * k)) : (R.extract n R.size).data.toList = l.drop (n * (k + 1)) := by
  have h9 : R.size = R.data.toList.length := rfl
  rw [ext_list, h9, h, List.drop_drop, List.take_of_length_le (by simp; omega), Nat.mul_succ]
theorem take_ext (R : ByteArray) (l : List UInt8) (n k : Nat) (h : R.data.toList = l.drop (n * k)) : R.extract 0 n = pc l n k := by
  apply ba_ext
  rw [ext_list, h]; rfl
theorem len_ext (R : ByteArray) (l : List UInt8) (n k : Nat) (h : R.data.toList = l.drop (n * k)) : R.size = l.length - n * k := by
  have h9 : R.size = R.data.toList.length := rfl
  rw [h9, h, List.length_drop]
theorem pc_rest (R : ByteArray) (l : List UInt8) (n k : Nat) (h : R.data.toList = l.drop (n * k)) (hs : R.size ≤ n) : R = pc l n k := by
  apply ba_ext
  have h9 : R.size = R.data.toList.length := rfl
  show _ = (l.drop (n * k)).take n
  rw [List.take_of_length_le (by rw [← h]; omega), h]
theorem ceil_last (S n k : Nat) (h1 : 1 ≤ n) (h2 : n * k < S) (h3 : S - n * k ≤ n) : (S + n - 1) / n = k + 1 := by
  have h4 : n * (k + 1) = n * k + n := Nat.mul_succ _ _
  rw [Nat.div_eq_of_lt_le]
  · rw [Nat.mul_comm]; omega
  · rw [Nat.mul_comm, Nat.mul_succ]; omega


/-- a text without the zero bytes ahead -/
def trimL (l : List UInt8) : List UInt8 := l.dropWhile (· == 0)
theorem trimL_at (l : List UInt8) (k : Nat) (h0 : ∀ i, i < k → l[i]? = some 0) (x : UInt8) (hx : l[k]? = some x) (hne : x ≠ 0) : trimL l = l.drop k := by
  induction k generalizing l with
  | zero =>
    cases l with
    | nil => simp at hx
    | cons y l =>
      simp at hx
      subst hx
      unfold trimL
      rw [List.dropWhile_cons, if_neg (by simpa using hne)]
      rfl
  | succ k ih =>
    cases l with
    | nil => simp at hx
    | cons y l =>
      have h1 := h0 0 (by omega)
      simp at h1
      subst h1
      unfold trimL
      rw [List.dropWhile_cons, if_pos (by rfl), List.drop_succ_cons]
      exact ih l (fun i hi => by have := h0 (i + 1) (by omega); simpa using this) (by simpa using hx)
theorem trimL_all (l : List UInt8) (h0 : ∀ i, i < l.length → l[i]? = some 0) : trimL l = [] := by
  induction l with
  | nil => rfl
  | cons y l ih =>
    have h1 := h0 0 (by simp)
    simp at h1
    subst h1
    unfold trimL
    rw [List.dropWhile_cons, if_pos (by rfl)]
    exact ih (fun i hi => by have := h0 (i + 1) (by simp; omega); simpa using this)


end Oct
end Go.Proofs.Ytlmnidpcdibnkaa

/- The reference's Cut, Pieces, Zeros, Pad, Trim. -/
namespace Go.Proofs.Ytlmnidpcdibnkaa
open Go.RowKit
namespace RefOct

theorem one_ext (s : ByteArray) (j : Nat) (h : j < s.size) : (s.extract j (j + 1)).data.toList = [s[j]] := by
  rw [ext_list, Nat.add_sub_cancel_left, List.drop_eq_getElem_cons (show j < s.data.toList.length from h)]
  rfl
theorem snoc_ext (O s : ByteArray) (a k j : Nat) (hO : O.data.toList = (s.data.toList.drop a).take k) (hj : j = a + k) (h : j < s.size) : (O ++ s.extract j (j + 1)).data.toList = (s.data.toList.drop a).take (k + 1) := by
  subst hj
  rw [app_list, hO, one_ext s _ h, List.take_succ_eq_append_getElem (by simp; have h9 : s.size = s.data.toList.length := rfl; omega)]
  simp
  rfl




theorem zeros_app (s : ByteArray) (n : Nat) : s ++ strOfNums (List.replicate n 0) = bs (s.data.toList ++ List.replicate n 0) := by
  apply ba_ext
  rw [app_list, show (strOfNums (List.replicate n 0)).data.toList = List.replicate n 0 from by rw [nums_list]; simp, list_bs]



end RefOct
end Go.Proofs.Ytlmnidpcdibnkaa
