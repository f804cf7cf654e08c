/- octets.Pieces, octets.Trim. -/
import Derived.Test.YtlcicpdnakmdnaaMemS
import Derived.Test.YtlcicpdnakmdnaaOct
namespace Go.Proofs.Ytlcicpdnakmdnaa
open Go.RowKit
namespace Oct

/-- piece number i of n bytes each -/
def pc (l : List UInt8) (n i : Nat) : ByteArray := bs ((l.drop (n * i)).take n)
def pcs (l : List UInt8) (n m : Nat) : List ByteArray := (List.range m).map (pc l n)
theorem pcs_len (l : List UInt8) (n m : Nat) : (pcs l n m).length = m := by simp [pcs]
theorem pcs_succ (l : List UInt8) (n m : Nat) : pcs l n (m + 1) = pcs l n m ++ [pc l n m] := by simp [pcs, List.range_succ]
def strLen : Value → Nat | .string r => r.size | _ => 0
theorem drop_ext (R : ByteArray) (l : List UInt8) (n k : Nat) (h : R.data.toList = l.drop (n * k)) : (R.extract n R.size).data.toList = l.drop (n * (k + 1)) := by
  have h9 : R.size = R.data.toList.length := rfl
  rw [ext_list, h9, h, List.drop_drop, List.take_of_length_le (by simp; omega), Nat.mul_succ]
theorem take_ext (R : ByteArray) (l : List UInt8) (n k : Nat) (h : R.data.toList = l.drop (n * k)) : R.extract 0 n = pc l n k := by
  apply ba_ext
  rw [ext_list, h]; rfl
theorem len_ext (R : ByteArray) (l : List UInt8) (n k : Nat) (h : R.data.toList = l.drop (n * k)) : R.size = l.length - n * k := by
  have h9 : R.size = R.data.toList.length := rfl
  rw [h9, h, List.length_drop]
theorem pc_rest (R : ByteArray) (l : List UInt8) (n k : Nat) (h : R.data.toList = l.drop (n * k)) (hs : R.size ≤ n) : R = pc l n k := by
  apply ba_ext
  have h9 : R.size = R.data.toList.length := rfl
  show _ = (l.drop (n * k)).take n
  rw [List.take_of_length_le (by rw [← h]; omega), h]
theorem ceil_last (S n k : Nat) (h1 : 1 ≤ n) (h2 : n * k < S) (h3 : S - n * k ≤ n) : (S + n - 1) / n = k + 1 := by
  have h4 : n * (k + 1) = n * k + n := Nat.mul_succ _ _
  rw [Nat.div_eq_of_lt_le]
  · rw [Nat.mul_comm]; omega
  · rw [Nat.mul_comm, Nat.mul_succ]; omega


/-- a text without the zero bytes ahead -/
def trimL (l : List UInt8) : List UInt8 := l.dropWhile (· == 0)
theorem trimL_at (l : List UInt8) (k : Nat) (h0 : ∀ i, i < k → l[i]? = some 0) (x : UInt8) (hx : l[k]? = some x) (hne : x ≠ 0) : trimL l = l.drop k := by
  induction k generalizing l with
  | zero =>
    cases l with
    | nil => simp at hx
    | cons y l =>
      simp at hx
      subst hx
      unfold trimL
      rw [List.dropWhile_cons, if_neg (by simpa using hne)]
      rfl
  | succ k ih =>
    cases l with
    | nil => simp at hx
    | cons y l =>
      have h1 := h0 0 (by omega)
      simp at h1
      subst h1
      unfold trimL
      rw [List.dropWhile_cons, if_pos (by rfl), List.drop_succ_cons]
      exact ih l (fun i hi => by have := h0 (i + 1) (by omega); simpa using this) (by simpa using hx)
theorem trimL_all (l : List UInt8) (h0 : ∀ i, i < l.length → l[i]? = some 0) : trimL l = [] := by
  induction l with
  | nil => rfl
  | cons y l ih =>
    have h1 := h0 0 (by simp)
    simp at h1
    subst h1
    unfold trimL
    rw [List.dropWhile_cons, if_pos (by rfl)]
    exact ih (fun i hi => by have := h0 (i + 1) (by simp; omega); simpa using this)

set_option maxHeartbeats 1000000 in
theorem trim_ret (s : ByteArray) (hm : s.size ≤ 9223372036854775807) (X : ByteArray) (hX : X = bs (trimL s.data.toList)) : Ret 39 #[.string s] (.string X) := by
  intro w
  have HX := Lib.hid hX
  clear hX
  go_enter Try.func39, Try.ntmps39
  go_wp2
  go_loop [6] (fun i => ∃ k : Nat, k ≤ s.size ∧ i = .int .i64 k ∧ Hid (∀ i, i < k → s.data.toList[i]? = some 0)) (fun i => s.size - (intOf i).toNat)
  case atStart => exact ⟨0, Nat.zero_le _, rfl, Lib.hid (fun i hi => absurd hi (Nat.not_lt_zero i))⟩
  case round =>
    obtain ⟨k, hk, rfl, HZ⟩ := hrel
    by_cases hlt : k < s.size
    · have hg : s.data.toList[k]? = some s[k] := by rw [List.getElem?_eq_getElem (show k < s.data.toList.length from hlt)]; rfl
      by_cases h0 : s[k].toNat = 0
      · have hz : s[k] = 0 := UInt8.toNat_inj.1 h0
        rw [hz] at hg
        have hb : ((s[k].toNat : Int) != 0) = false := by rw [h0]; rfl
        have Hg := Lib.hid hg
        clear hg
        have Hz := Lib.hid hz
        clear hz
        have H0 := Lib.hid h0
        clear h0
        go_wp2_with fail
        go_round
        case rel => exact ⟨k + 1, by omega, by go_num, Lib.hid (fun i hi => by
          by_cases h : i < k
          · exact HZ.out i h
          · obtain rfl : i = k := by omega
            exact Hg.out)⟩
        case measure => simp [intOf]; omega
      · have hb : ((s[k].toNat : Int) != 0) = true := by rw [bne_iff_ne]; omega
        have hX2 : X = s.extract k s.size := by
          rw [HX.out, trimL_at _ k HZ.out _ hg (fun h => h0 (by rw [h]; rfl))]
          apply ba_ext
          rw [list_bs, ext_list, List.take_of_length_le (by simp)]
        subst hX2
        have Hg := Lib.hid hg
        clear hg
        have H0 := Lib.hid h0
        clear h0
        go_wp2_with fail
        go_ret
        exact ⟨rfl, rfl⟩
    · have hX2 : X = ⟨#[]⟩ := by
        rw [HX.out, trimL_all _ (fun i hi => HZ.out i (by have h9 : s.size = s.data.toList.length := rfl; omega))]; rfl
      subst hX2
      go_wp2_with fail
      go_ret
      exact ⟨rfl, rfl⟩

end Oct
end Go.Proofs.Ytlcicpdnakmdnaa
