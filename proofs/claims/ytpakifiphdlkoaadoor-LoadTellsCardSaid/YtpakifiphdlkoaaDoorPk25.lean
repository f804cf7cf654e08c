/- Joined texts. -/
-- PACK: YtpakifiphdlkoaaDoorRefKind YtpakifiphdlkoaaDoorKindChk YtpakifiphdlkoaaDoorLoad YtpakifiphdlkoaaDoorLoad2 YtpakifiphdlkoaaDoorLoad3 YtpakifiphdlkoaaDoorLoad4 YtpakifiphdlkoaaDoorLoad5 YtpakifiphdlkoaaDoorLoadAwake
import Derived.Test.YtpakifiphdlkoaaDoorPk24
import Derived.Test.YtpakifiphdlkoaaDoorPk13
import Derived.Test.YtpakifiphdlkoaaDoorPk15
import Derived.Test.YtpakifiphdlkoaaDoorPk11
import Derived.Deep.QuietTactic
import Derived.BigQuiet
import Derived.IntWalk

/- The reference of layer 23; kind.Check. -/
namespace Go.Proofs.YtpakifiphdlkoaaDoor
open Go.RowKit
namespace Kind
open Curve (KMkI KAll)
set_option maxRecDepth 100000 in
theorem rn_1 : Ret 34 #[.int .i64 1] (.string ⟨#[65, 69, 83, 45, 49, 50, 56]⟩) := by
  intro w
  go_enter Tryd.func34, Tryd.ntmps34
  go_wp2_with fail
  go_ret
  exact ⟨rfl, rfl⟩
set_option maxRecDepth 100000 in
theorem rt_1 : Ret 67 #[.int .i64 1] (.string ⟨#[50, 46, 49, 54, 46, 56, 52, 48, 46, 49, 46, 49, 48, 49, 46, 51, 46, 52, 46, 49, 46, 49]⟩) := by
  intro w
  go_enter Tryd.func67, Tryd.ntmps67
  go_wp2_with fail
  go_ret
  exact ⟨rfl, rfl⟩
set_option maxRecDepth 100000 in
theorem rc_1 : Ret 40 #[.int .i64 1] (.int .i64 0) := by
  intro w
  go_enter Tryd.func40, Tryd.ntmps40
  go_wp2_with fail
  go_ret
  exact ⟨rfl, rfl⟩
set_option maxRecDepth 100000 in
theorem rn_2 : Ret 34 #[.int .i64 2] (.string ⟨#[65, 69, 83, 45, 49, 57, 50]⟩) := by
  intro w
  go_enter Tryd.func34, Tryd.ntmps34
  go_wp2_with fail
  go_ret
  exact ⟨rfl, rfl⟩
set_option maxRecDepth 100000 in
theorem rt_2 : Ret 67 #[.int .i64 2] (.string ⟨#[50, 46, 49, 54, 46, 56, 52, 48, 46, 49, 46, 49, 48, 49, 46, 51, 46, 52, 46, 49, 46, 50, 49]⟩) := by
  intro w
  go_enter Tryd.func67, Tryd.ntmps67
  go_wp2_with fail
  go_ret
  exact ⟨rfl, rfl⟩
set_option maxRecDepth 100000 in
theorem rc_2 : Ret 40 #[.int .i64 2] (.int .i64 0) := by
  intro w
  go_enter Tryd.func40, Tryd.ntmps40
  go_wp2_with fail
  go_ret
  exact ⟨rfl, rfl⟩
set_option maxRecDepth 100000 in
theorem rn_3 : Ret 34 #[.int .i64 3] (.string ⟨#[65, 69, 83, 45, 50, 53, 54]⟩) := by
  intro w
  go_enter Tryd.func34, Tryd.ntmps34
  go_wp2_with fail
  go_ret
  exact ⟨rfl, rfl⟩
set_option maxRecDepth 100000 in
theorem rt_3 : Ret 67 #[.int .i64 3] (.string ⟨#[50, 46, 49, 54, 46, 56, 52, 48, 46, 49, 46, 49, 48, 49, 46, 51, 46, 52, 46, 49, 46, 52, 49]⟩) := by
  intro w
  go_enter Tryd.func67, Tryd.ntmps67
  go_wp2_with fail
  go_ret
  exact ⟨rfl, rfl⟩
set_option maxRecDepth 100000 in
theorem rc_3 : Ret 40 #[.int .i64 3] (.int .i64 0) := by
  intro w
  go_enter Tryd.func40, Tryd.ntmps40
  go_wp2_with fail
  go_ret
  exact ⟨rfl, rfl⟩
set_option maxRecDepth 100000 in
theorem rn_4 : Ret 34 #[.int .i64 4] (.string ⟨#[84, 68, 69, 83, 45, 50]⟩) := by
  intro w
  go_enter Tryd.func34, Tryd.ntmps34
  go_wp2_with fail
  go_ret
  exact ⟨rfl, rfl⟩
set_option maxRecDepth 100000 in
theorem rt_4 : Ret 67 #[.int .i64 4] (.string ⟨#[49, 46, 50, 46, 56, 52, 48, 46, 49, 49, 51, 53, 52, 57, 46, 51, 46, 55]⟩) := by
  intro w
  go_enter Tryd.func67, Tryd.ntmps67
  go_wp2_with fail
  go_ret
  exact ⟨rfl, rfl⟩
set_option maxRecDepth 100000 in
theorem rc_4 : Ret 40 #[.int .i64 4] (.int .i64 0) := by
  intro w
  go_enter Tryd.func40, Tryd.ntmps40
  go_wp2_with fail
  go_ret
  exact ⟨rfl, rfl⟩
set_option maxRecDepth 100000 in
theorem rn_5 : Ret 34 #[.int .i64 5] (.string ⟨#[84, 68, 69, 83, 45, 51]⟩) := by
  intro w
  go_enter Tryd.func34, Tryd.ntmps34
  go_wp2_with fail
  go_ret
  exact ⟨rfl, rfl⟩
set_option maxRecDepth 100000 in
theorem rt_5 : Ret 67 #[.int .i64 5] (.string ⟨#[49, 46, 50, 46, 56, 52, 48, 46, 49, 49, 51, 53, 52, 57, 46, 51, 46, 55]⟩) := by
  intro w
  go_enter Tryd.func67, Tryd.ntmps67
  go_wp2_with fail
  go_ret
  exact ⟨rfl, rfl⟩
set_option maxRecDepth 100000 in
theorem rc_5 : Ret 40 #[.int .i64 5] (.int .i64 0) := by
  intro w
  go_enter Tryd.func40, Tryd.ntmps40
  go_wp2_with fail
  go_ret
  exact ⟨rfl, rfl⟩
set_option maxRecDepth 100000 in
theorem rn_6 : Ret 34 #[.int .i64 6] (.string ⟨#[72, 77, 65, 67, 45, 83, 72, 65, 50, 53, 54]⟩) := by
  intro w
  go_enter Tryd.func34, Tryd.ntmps34
  go_wp2_with fail
  go_ret
  exact ⟨rfl, rfl⟩
set_option maxRecDepth 100000 in
theorem rt_6 : Ret 67 #[.int .i64 6] (.string ⟨#[49, 46, 50, 46, 56, 52, 48, 46, 49, 49, 51, 53, 52, 57, 46, 50, 46, 57]⟩) := by
  intro w
  go_enter Tryd.func67, Tryd.ntmps67
  go_wp2_with fail
  go_ret
  exact ⟨rfl, rfl⟩
set_option maxRecDepth 100000 in
theorem rc_6 : Ret 40 #[.int .i64 6] (.int .i64 0) := by
  intro w
  go_enter Tryd.func40, Tryd.ntmps40
  go_wp2_with fail
  go_ret
  exact ⟨rfl, rfl⟩
set_option maxRecDepth 100000 in
theorem rn_7 : Ret 34 #[.int .i64 7] (.string ⟨#[72, 77, 65, 67, 45, 83, 72, 65, 53, 49, 50]⟩) := by
  intro w
  go_enter Tryd.func34, Tryd.ntmps34
  go_wp2_with fail
  go_ret
  exact ⟨rfl, rfl⟩
set_option maxRecDepth 100000 in
theorem rt_7 : Ret 67 #[.int .i64 7] (.string ⟨#[49, 46, 50, 46, 56, 52, 48, 46, 49, 49, 51, 53, 52, 57, 46, 50, 46, 49, 49]⟩) := by
  intro w
  go_enter Tryd.func67, Tryd.ntmps67
  go_wp2_with fail
  go_ret
  exact ⟨rfl, rfl⟩
set_option maxRecDepth 100000 in
theorem rc_7 : Ret 40 #[.int .i64 7] (.int .i64 0) := by
  intro w
  go_enter Tryd.func40, Tryd.ntmps40
  go_wp2_with fail
  go_ret
  exact ⟨rfl, rfl⟩
set_option maxRecDepth 100000 in
theorem rn_8 : Ret 34 #[.int .i64 8] (.string ⟨#[69, 67, 45, 80, 50, 50, 52]⟩) := by
  intro w
  go_enter Tryd.func34, Tryd.ntmps34
  go_wp2_with fail
  go_ret
  exact ⟨rfl, rfl⟩
set_option maxRecDepth 100000 in
theorem rt_8 : Ret 67 #[.int .i64 8] (.string ⟨#[49, 46, 50, 46, 56, 52, 48, 46, 49, 48, 48, 52, 53, 46, 50, 46, 49]⟩) := by
  intro w
  go_enter Tryd.func67, Tryd.ntmps67
  go_wp2_with fail
  go_ret
  exact ⟨rfl, rfl⟩
set_option maxRecDepth 100000 in
theorem rc_8 : Ret 40 #[.int .i64 8] (.int .i64 1) := by
  intro w
  go_enter Tryd.func40, Tryd.ntmps40
  go_wp2_with fail
  go_ret
  exact ⟨rfl, rfl⟩
set_option maxRecDepth 100000 in
theorem rn_9 : Ret 34 #[.int .i64 9] (.string ⟨#[69, 67, 45, 80, 50, 53, 54]⟩) := by
  intro w
  go_enter Tryd.func34, Tryd.ntmps34
  go_wp2_with fail
  go_ret
  exact ⟨rfl, rfl⟩
set_option maxRecDepth 100000 in
theorem rt_9 : Ret 67 #[.int .i64 9] (.string ⟨#[49, 46, 50, 46, 56, 52, 48, 46, 49, 48, 48, 52, 53, 46, 50, 46, 49]⟩) := by
  intro w
  go_enter Tryd.func67, Tryd.ntmps67
  go_wp2_with fail
  go_ret
  exact ⟨rfl, rfl⟩
set_option maxRecDepth 100000 in
theorem rc_9 : Ret 40 #[.int .i64 9] (.int .i64 2) := by
  intro w
  go_enter Tryd.func40, Tryd.ntmps40
  go_wp2_with fail
  go_ret
  exact ⟨rfl, rfl⟩
set_option maxRecDepth 100000 in
theorem rn_10 : Ret 34 #[.int .i64 10] (.string ⟨#[69, 67, 45, 80, 51, 56, 52]⟩) := by
  intro w
  go_enter Tryd.func34, Tryd.ntmps34
  go_wp2_with fail
  go_ret
  exact ⟨rfl, rfl⟩
set_option maxRecDepth 100000 in
theorem rt_10 : Ret 67 #[.int .i64 10] (.string ⟨#[49, 46, 50, 46, 56, 52, 48, 46, 49, 48, 48, 52, 53, 46, 50, 46, 49]⟩) := by
  intro w
  go_enter Tryd.func67, Tryd.ntmps67
  go_wp2_with fail
  go_ret
  exact ⟨rfl, rfl⟩
set_option maxRecDepth 100000 in
theorem rc_10 : Ret 40 #[.int .i64 10] (.int .i64 3) := by
  intro w
  go_enter Tryd.func40, Tryd.ntmps40
  go_wp2_with fail
  go_ret
  exact ⟨rfl, rfl⟩
set_option maxRecDepth 100000 in
theorem rn_11 : Ret 34 #[.int .i64 11] (.string ⟨#[69, 67, 45, 80, 53, 50, 49]⟩) := by
  intro w
  go_enter Tryd.func34, Tryd.ntmps34
  go_wp2_with fail
  go_ret
  exact ⟨rfl, rfl⟩
set_option maxRecDepth 100000 in
theorem rt_11 : Ret 67 #[.int .i64 11] (.string ⟨#[49, 46, 50, 46, 56, 52, 48, 46, 49, 48, 48, 52, 53, 46, 50, 46, 49]⟩) := by
  intro w
  go_enter Tryd.func67, Tryd.ntmps67
  go_wp2_with fail
  go_ret
  exact ⟨rfl, rfl⟩
set_option maxRecDepth 100000 in
theorem rc_11 : Ret 40 #[.int .i64 11] (.int .i64 4) := by
  intro w
  go_enter Tryd.func40, Tryd.ntmps40
  go_wp2_with fail
  go_ret
  exact ⟨rfl, rfl⟩
set_option maxRecDepth 100000 in
theorem rn_no (k : Int) (h : k < 1 ∨ 11 < k) : Ret 34 #[.int .i64 k] (.string ⟨#[]⟩) := by
  intro w
  have a1 : (k == 1) = false := by rw [beq_eq_false_iff_ne]; omega
  have a2 : (k == 2) = false := by rw [beq_eq_false_iff_ne]; omega
  have a3 : (k == 3) = false := by rw [beq_eq_false_iff_ne]; omega
  have a4 : (k == 4) = false := by rw [beq_eq_false_iff_ne]; omega
  have a5 : (k == 5) = false := by rw [beq_eq_false_iff_ne]; omega
  have a6 : (k == 6) = false := by rw [beq_eq_false_iff_ne]; omega
  have a7 : (k == 7) = false := by rw [beq_eq_false_iff_ne]; omega
  have a8 : (k == 8) = false := by rw [beq_eq_false_iff_ne]; omega
  have a9 : (k == 9) = false := by rw [beq_eq_false_iff_ne]; omega
  have a10 : (k == 10) = false := by rw [beq_eq_false_iff_ne]; omega
  have a11 : (k == 11) = false := by rw [beq_eq_false_iff_ne]; omega
  clear h
  go_enter Tryd.func34, Tryd.ntmps34
  go_wp2_with fail
  go_ret
  exact ⟨rfl, rfl⟩
set_option maxRecDepth 100000 in
theorem rt_no (k : Int) (h : k < 1 ∨ 11 < k) : Ret 67 #[.int .i64 k] (.string ⟨#[]⟩) := by
  intro w
  have a1 : (k == 1) = false := by rw [beq_eq_false_iff_ne]; omega
  have a2 : (k == 2) = false := by rw [beq_eq_false_iff_ne]; omega
  have a3 : (k == 3) = false := by rw [beq_eq_false_iff_ne]; omega
  have a4 : (k == 4) = false := by rw [beq_eq_false_iff_ne]; omega
  have a5 : (k == 5) = false := by rw [beq_eq_false_iff_ne]; omega
  have a6 : (k == 6) = false := by rw [beq_eq_false_iff_ne]; omega
  have a7 : (k == 7) = false := by rw [beq_eq_false_iff_ne]; omega
  have a8 : (k == 8) = false := by rw [beq_eq_false_iff_ne]; omega
  have a9 : (k == 9) = false := by rw [beq_eq_false_iff_ne]; omega
  have a10 : (k == 10) = false := by rw [beq_eq_false_iff_ne]; omega
  have a11 : (k == 11) = false := by rw [beq_eq_false_iff_ne]; omega
  clear h
  go_enter Tryd.func67, Tryd.ntmps67
  go_wp2_with fail
  go_ret
  exact ⟨rfl, rfl⟩
set_option maxRecDepth 100000 in
theorem rc_no (k : Int) (h : k < 1 ∨ 11 < k) : Ret 40 #[.int .i64 k] (.int .i64 0) := by
  intro w
  by_cases h1 : 8 ≤ k
  · have h2 : ¬ k ≤ 11 := by omega
    clear h
    go_enter Tryd.func40, Tryd.ntmps40
    go_wp2_with fail
    go_ret
    exact ⟨rfl, rfl⟩
  · clear h
    go_enter Tryd.func40, Tryd.ntmps40
    go_wp2_with fail
    go_ret
    exact ⟨rfl, rfl⟩
theorem rname_ret (no : Int) (X : ByteArray) (hX : X = bs (rowOf no).1) : Ret 34 #[.int .i64 no] (.string X) := by
  subst hX
  rcases row_cases no with h | rfl | rfl | rfl | rfl | rfl | rfl | rfl | rfl | rfl | rfl | rfl
  · rw [rowOf_out no h]; exact rn_no no h
  · exact rn_1
  · exact rn_2
  · exact rn_3
  · exact rn_4
  · exact rn_5
  · exact rn_6
  · exact rn_7
  · exact rn_8
  · exact rn_9
  · exact rn_10
  · exact rn_11
theorem rsize_ret (no : Int) (X : Int) (hX : X = (rowOf no).2.1) : Ret 36 #[.int .i64 no] (.int .i64 X) := by
  subst hX
  rcases row_cases no with h | rfl | rfl | rfl | rfl | rfl | rfl | rfl | rfl | rfl | rfl | rfl
  · rw [rowOf_out no h]; exact rsize_no no h
  · exact rsize_1
  · exact rsize_2
  · exact rsize_3
  · exact rsize_4
  · exact rsize_5
  · exact rsize_6
  · exact rsize_7
  · exact rsize_8
  · exact rsize_9
  · exact rsize_10
  · exact rsize_11
theorem rletter_ret (no : Int) (X : ByteArray) (hX : X = bs (rowOf no).2.2.1) : Ret 38 #[.int .i64 no] (.string X) := by
  subst hX
  rcases row_cases no with h | rfl | rfl | rfl | rfl | rfl | rfl | rfl | rfl | rfl | rfl | rfl
  · rw [rowOf_out no h]; exact rletter_no no h
  · exact rletter_1
  · exact rletter_2
  · exact rletter_3
  · exact rletter_4
  · exact rletter_5
  · exact rletter_6
  · exact rletter_7
  · exact rletter_8
  · exact rletter_9
  · exact rletter_10
  · exact rletter_11
theorem rcurve_ret (no : Int) (X : Int) (hX : X = (rowOf no).2.2.2.1) : Ret 40 #[.int .i64 no] (.int .i64 X) := by
  subst hX
  rcases row_cases no with h | rfl | rfl | rfl | rfl | rfl | rfl | rfl | rfl | rfl | rfl | rfl
  · rw [rowOf_out no h]; exact rc_no no h
  · exact rc_1
  · exact rc_2
  · exact rc_3
  · exact rc_4
  · exact rc_5
  · exact rc_6
  · exact rc_7
  · exact rc_8
  · exact rc_9
  · exact rc_10
  · exact rc_11
theorem rtext_ret (no : Int) (X : ByteArray) (hX : X = bs (rowOf no).2.2.2.2) : Ret 67 #[.int .i64 no] (.string X) := by
  subst hX
  rcases row_cases no with h | rfl | rfl | rfl | rfl | rfl | rfl | rfl | rfl | rfl | rfl | rfl
  · rw [rowOf_out no h]; exact rt_no no h
  · exact rt_1
  · exact rt_2
  · exact rt_3
  · exact rt_4
  · exact rt_5
  · exact rt_6
  · exact rt_7
  · exact rt_8
  · exact rt_9
  · exact rt_10
  · exact rt_11
set_option maxRecDepth 100000 in
theorem rarcs_core (no : Int) (t : ByteArray) (xs : List Int) (q : Bool) (c1 : Ret 67 #[.int .i64 no] (.string t)) (c2 : MkI 70 #[.string t] xs q) : KMkI KAll 42 #[.int .i64 no] xs := by
  intro w _
  have HS := Lib.hid (Since.refl w)
  go_enter Tryd.func42, Tryd.ntmps42
  go_wp2_with fail
  repeat (first
    | (with_reducible refine c1.calls ?_; try go_wp2_with fail))
  refine (c2.calls0) ?_
  intro v1 w1 hv1 h1
  have HV1 := Lib.hid hv1
  clear hv1
  replace HS := Lib.hid (HS.out.step (by first | exact h1 | exact (Since.alloc (Since.refl _) _).step h1 | exact (Since.alloc (Since.alloc (Since.refl _) _) _).step h1 | exact (Since.drew (Since.refl _)).step h1 | exact (Since.alloc (Since.alloc (Since.alloc (Since.refl _) _) _) _).step h1))
  clear h1
  go_wp2_with fail
  go_ret
  exact ⟨_, rfl, HV1.out, HS.out⟩
theorem rarcs_k (no : Int) (xs : List Int) (hX : xs = arcsL (rowOf no)) : KMkI KAll 42 #[.int .i64 no] xs := by
  subst hX
  have h1 := row_short no
  have hz : (bs (rowOf no).2.2.2.2).size = (rowOf no).2.2.2.2.length := by
    show (bs (rowOf no).2.2.2.2).data.toList.length = _
    rw [list_bs]
  have c2 := Oid.rparse_mk (bs (rowOf no).2.2.2.2) (by omega) _ _ rfl rfl
  rw [list_bs] at c2
  exact rarcs_core no _ _ _ (rtext_ret no _ rfl) c2
theorem rowOf_at (i : Nat) (r : Row) (h : rows[i]? = some r) : rowOf ((i : Int) + 1) = r := by
  have hi : i < 11 := (List.getElem?_eq_some_iff.1 h).1
  unfold rowOf
  rw [if_pos (by omega), show ((i : Int) + 1 - 1).toNat = i by omega, h]
  rfl
theorem fndL_step (p : Row → Bool) (k : Nat) (r : Row) (h : rows[k]? = some r) (x : Int × Bool) (hx : fndL p (rows.drop k) k = x) : (if p r then ((k : Int) + 1, true) else fndL p (rows.drop (k + 1)) (k + 1)) = x := by
  have hk : k < rows.length := (List.getElem?_eq_some_iff.1 h).1
  rw [List.drop_eq_getElem_cons hk, (List.getElem?_eq_some_iff.1 h).2] at hx
  exact hx
set_option maxRecDepth 100000 in
set_option maxHeartbeats 2000000 in
theorem rof_ret (s : ByteArray) (si n : Int) (q : Bool) (hn : fndL (wants s.data.toList si) rows 0 = (n, q)) : Ret 30 #[.string s, .int .i64 si] (.tuple #[.int .i64 n, .bool q]) := by
  intro w
  have HN := Lib.hid hn
  clear hn
  go_enter Tryd.func30, Tryd.ntmps30
  go_wp2_with fail
  go_loop [6] (fun i => ∃ k : Nat, k ≤ 11 ∧ i = .int .i64 ((k : Int) + 1) ∧ Hid (fndL (wants s.data.toList si) (rows.drop k) k = (n, q))) (fun i => 12 - (intOf i).toNat)
  case atStart => exact ⟨0, by omega, rfl, HN⟩
  case round =>
    clear HN
    obtain ⟨k, hk, rfl, HN⟩ := hrel
    by_cases hlt2 : k < 11
    · obtain ⟨r, hr⟩ : ∃ r, rows[k]? = some r := ⟨rows[k]'hlt2, List.getElem?_eq_getElem _⟩
      have hd := fndL_step _ k r hr _ HN.out
      obtain ⟨z, hz⟩ : ∃ z, z = r.2.1 := ⟨_, rfl⟩
      obtain ⟨y, hy⟩ : ∃ y, y = bs r.2.2.1 := ⟨_, rfl⟩
      have c1 := rletter_ret ((k : Int) + 1) y (by rw [rowOf_at k r hr]; exact hy)
      have c2 := rsize_ret ((k : Int) + 1) z (by rw [rowOf_at k r hr]; exact hz)
      obtain ⟨u1, hu1⟩ : ∃ b, (r.2.2.1 == s.data.toList) = b := ⟨_, rfl⟩
      obtain ⟨u2, hu2⟩ : ∃ b, (r.2.1 == si) = b := ⟨_, rfl⟩
      have t1 : (y.toList == s.toList) = u1 := by rw [hy, toList_d, toList_d, list_bs]; exact hu1
      have t2 : (z == si) = u2 := by rw [hz]; exact hu2
      unfold wants at hd
      rw [hu1, hu2] at hd
      clear hr hz hy hu1 hu2
      cases u1 <;> cases u2
      case true.true =>
        rw [if_pos (by rfl)] at hd
        cases hd
        clear HN
        go_wp2_with fail
        repeat (first
          | (with_reducible refine c1.calls ?_; try go_wp2_with fail)
          | (with_reducible refine c2.calls ?_; try go_wp2_with fail))
        go_ret2
        exact ⟨rfl, rfl⟩
      all_goals
        rw [if_neg (by decide)] at hd
        have HN2 := Lib.hid hd
        clear hd HN
        go_wp2_with fail
        repeat (first
          | (with_reducible refine c1.calls ?_; try go_wp2_with fail)
          | (with_reducible refine c2.calls ?_; try go_wp2_with fail))
        go_round
        case rel => exact ⟨k + 1, by omega, by go_num, HN2⟩
        case measure => simp [intOf]; omega
    · obtain rfl : k = 11 := by omega
      have hd := HN.out
      cases hd
      go_wp2_with fail
      go_ret2
      exact ⟨rfl, rfl⟩
def RdI3 (f : Nat) (xs : List Int) (a b : Int) (v : Value) : Prop := ∀ w x, IntsS w x xs → Calls Tryd.prog f #[x, .int .i64 a, .int .i64 b] w fun e w' => e = .returned v ∧ Below w.heap.size w w'
set_option maxRecDepth 100000 in
theorem RdI3.calls0 {f : Nat} {xs : List Int} {a b : Int} {v x : Value} (h : RdI3 f xs a b v) {w : World} (hx : IntsS w x xs) {R : Ending → World → Prop} (k : ∀ w', Since w w' → R (.returned v) w') : Calls Tryd.prog f #[x, .int .i64 a, .int .i64 b] w R :=
  (h w x hx).mono fun _ _ ⟨he, hb⟩ => by subst he; exact k _ hb
set_option maxRecDepth 100000 in
set_option maxHeartbeats 4000000 in
theorem rby_rd (xs : List Int) (s : ByteArray) (cu si n : Int) (q : Bool) (cT : Oid.RdI 66 xs (.string s)) (hn : fndL (takes s.data.toList cu si) rows 0 = (n, q)) : RdI3 28 xs cu si (.tuple #[.int .i64 n, .bool q]) := by
  intro w x hx
  have HS := Lib.hid (Since.refl w)
  have HN := Lib.hid hn
  clear hn
  go_enter Tryd.func28, Tryd.ntmps28
  go_wp2_with fail
  refine (cT.calls0 hx) ?_
  intro w1 h1
  replace HS := Lib.hid (HS.out.step (by first | exact h1 | exact (Since.alloc (Since.refl _) _).step h1 | exact (Since.alloc (Since.alloc (Since.refl _) _) _).step h1 | exact (Since.drew (Since.refl _)).step h1 | exact (Since.alloc (Since.alloc (Since.alloc (Since.refl _) _) _) _).step h1))
  clear h1
  go_wp2_with fail
  clear hx cT
  go_loop [9] (fun i => ∃ k : Nat, k ≤ 11 ∧ i = .int .i64 ((k : Int) + 1) ∧ Hid (fndL (takes s.data.toList cu si) (rows.drop k) k = (n, q))) (fun i => 12 - (intOf i).toNat)
  case atStart => exact ⟨0, by omega, rfl, HN⟩
  case round =>
    clear HN
    obtain ⟨k, hk, rfl, HN⟩ := hrel
    by_cases hlt2 : k < 11
    · obtain ⟨r, hr⟩ : ∃ r, rows[k]? = some r := ⟨rows[k]'hlt2, List.getElem?_eq_getElem _⟩
      have hd := fndL_step _ k r hr _ HN.out
      obtain ⟨z, hz⟩ : ∃ z, z = r.2.1 := ⟨_, rfl⟩
      obtain ⟨c, hc⟩ : ∃ c, c = r.2.2.2.1 := ⟨_, rfl⟩
      obtain ⟨y, hy⟩ : ∃ y, y = bs r.2.2.2.2 := ⟨_, rfl⟩
      have c1 := rtext_ret ((k : Int) + 1) y (by rw [rowOf_at k r hr]; exact hy)
      have c2 := rcurve_ret ((k : Int) + 1) c (by rw [rowOf_at k r hr]; exact hc)
      have c3 := rsize_ret ((k : Int) + 1) z (by rw [rowOf_at k r hr]; exact hz)
      obtain ⟨u1, hu1⟩ : ∃ b, (r.2.2.2.2 == s.data.toList) = b := ⟨_, rfl⟩
      obtain ⟨u2, hu2⟩ : ∃ b, (r.2.2.2.1 == cu) = b := ⟨_, rfl⟩
      obtain ⟨u3, hu3⟩ : ∃ b, (r.2.1 == si) = b := ⟨_, rfl⟩
      have t1 : (y.toList == s.toList) = u1 := by rw [hy, toList_d, toList_d, list_bs]; exact hu1
      have t2 : (c == cu) = u2 := by rw [hc]; exact hu2
      have t3 : (z == si) = u3 := by rw [hz]; exact hu3
      unfold takes at hd
      rw [hu1, hu2, hu3] at hd
      clear hr hz hy hc hu1 hu2 hu3
      cases u1 <;> cases u2 <;> cases u3
      case true.true.true =>
        rw [if_pos (by rfl)] at hd
        cases hd
        clear HN
        go_wp2_with fail
        repeat (first
          | (with_reducible refine c1.calls ?_; try go_wp2_with fail)
          | (with_reducible refine c2.calls ?_; try go_wp2_with fail)
          | (with_reducible refine c3.calls ?_; try go_wp2_with fail))
        go_ret2
        exact ⟨rfl, HS.out⟩
      all_goals
        rw [if_neg (by decide)] at hd
        have HN2 := Lib.hid hd
        clear hd HN
        go_wp2_with fail
        repeat (first
          | (with_reducible refine c1.calls ?_; try go_wp2_with fail)
          | (with_reducible refine c2.calls ?_; try go_wp2_with fail)
          | (with_reducible refine c3.calls ?_; try go_wp2_with fail))
        go_round
        case rel => exact ⟨k + 1, by omega, by go_num, HN2⟩
        case measure => simp [intOf]; omega
    · obtain rfl : k = 11 := by omega
      have hd := HN.out
      cases hd
      go_wp2_with fail
      go_ret2
      exact ⟨rfl, HS.out⟩
end Kind
end Go.Proofs.YtpakifiphdlkoaaDoor

/- kind.Check, and the reference's; what the laws of layer 23 call awake. -/
namespace Go.Proofs.YtpakifiphdlkoaaDoor
open Go.RowKit
namespace Kind
open Curve (KMkI KAll)
/-- both tables -/
def Tab2 : World → Prop := fun w => Tabs w ∧ Curve.Tabs w
instance : Kp Tab2 := ⟨fun h hb => ⟨Kp.keep h.1 hb, Kp.keep h.2 hb⟩⟩
theorem Tab2.since {w w' : World} (h : Tab2 w) (hs : Since w w') : Tab2 w' := Kp.keep h hs
theorem KMk.t2 {f : Nat} {args : Array Value} {v : Value} (h : KMk Tabs f args v) : KMk Tab2 f args v := h.weak (fun _ h => h.1)
/-- why a key is none of a line's kind -/
def chkE (r : Row) (s : List UInt8) : Int := if r.2.1 = 0 then 8 else if (s.length : Int) ≠ r.2.1 then 9 else if r.2.2.2.1 ≠ 0 ∧ Curve.scB (Curve.rowOf r.2.2.2.1) s = false then 10 else 0
set_option maxRecDepth 100000 in
theorem chk_0 (no : Int) (s : ByteArray) (x y z : ByteArray) (n c : Int) (hn : (n == 0) = true) (c1 : KMk Tab2 69 #[.int .i64 no] (.agg #[.string x, .int .i64 n, .string y, .int .i64 c, .string z])) : KMk Tab2 43 #[.int .i64 no, .string s] (.int .i64 8) := by
  intro w hT
  go_enter Tryd.func43, Tryd.ntmps43
  go_wp2_with fail
  refine c1.calls0 hT ?_
  intro w1 h1
  have HSB := Lib.hid (Since.alloc h1 (.cells #[.string x, .int .i64 n, .string y, .int .i64 c, .string z] 59))
  clear hT h1
  go_wp2_with fail
  go_ret
  exact ⟨rfl, HSB.out⟩
set_option maxRecDepth 100000 in
theorem chk_l (no : Int) (s : ByteArray) (x y z : ByteArray) (n c : Int) (hn : (n == 0) = false) (hl : ((s.size : Int) != n) = true) (c1 : KMk Tab2 69 #[.int .i64 no] (.agg #[.string x, .int .i64 n, .string y, .int .i64 c, .string z])) : KMk Tab2 43 #[.int .i64 no, .string s] (.int .i64 9) := by
  intro w hT
  go_enter Tryd.func43, Tryd.ntmps43
  go_wp2_with fail
  refine c1.calls0 hT ?_
  intro w1 h1
  have HSB := Lib.hid (Since.alloc h1 (.cells #[.string x, .int .i64 n, .string y, .int .i64 c, .string z] 59))
  clear hT h1
  go_wp2_with fail
  go_ret
  exact ⟨rfl, HSB.out⟩
set_option maxRecDepth 100000 in
theorem chk_n (no : Int) (s : ByteArray) (x y z : ByteArray) (n c : Int) (hn : (n == 0) = false) (hl : ((s.size : Int) != n) = false) (hc : (c != 0) = false) (c1 : KMk Tab2 69 #[.int .i64 no] (.agg #[.string x, .int .i64 n, .string y, .int .i64 c, .string z])) : KMk Tab2 43 #[.int .i64 no, .string s] (.int .i64 0) := by
  intro w hT
  go_enter Tryd.func43, Tryd.ntmps43
  go_wp2_with fail
  refine c1.calls0 hT ?_
  intro w1 h1
  have HSB := Lib.hid (Since.alloc h1 (.cells #[.string x, .int .i64 n, .string y, .int .i64 c, .string z] 59))
  clear hT h1
  go_wp2_with fail
  go_ret
  exact ⟨rfl, HSB.out⟩
set_option maxRecDepth 100000 in
theorem chk_f (no : Int) (s : ByteArray) (x y z : ByteArray) (n c : Int) (hn : (n == 0) = false) (hl : ((s.size : Int) != n) = false) (hc : (c != 0) = true) (c1 : KMk Tab2 69 #[.int .i64 no] (.agg #[.string x, .int .i64 n, .string y, .int .i64 c, .string z])) (c2 : KMk Tab2 24 #[.int .i64 c, .string s] (.bool false)) : KMk Tab2 43 #[.int .i64 no, .string s] (.int .i64 10) := by
  intro w hT
  go_enter Tryd.func43, Tryd.ntmps43
  go_wp2_with fail
  refine c1.calls0 hT ?_
  intro w1 h1
  have HSB := Lib.hid (Since.alloc h1 (.cells #[.string x, .int .i64 n, .string y, .int .i64 c, .string z] 59))
  have HTB := Lib.hid (Kp.keep hT HSB.out)
  clear hT h1
  go_wp2_with fail
  refine c2.calls0 HTB.out ?_
  intro w2 h2
  have HSC := Lib.hid (HSB.out.step h2)
  clear h2
  go_wp2_with fail
  go_ret
  exact ⟨rfl, HSC.out⟩
set_option maxRecDepth 100000 in
theorem chk_t (no : Int) (s : ByteArray) (x y z : ByteArray) (n c : Int) (hn : (n == 0) = false) (hl : ((s.size : Int) != n) = false) (hc : (c != 0) = true) (c1 : KMk Tab2 69 #[.int .i64 no] (.agg #[.string x, .int .i64 n, .string y, .int .i64 c, .string z])) (c2 : KMk Tab2 24 #[.int .i64 c, .string s] (.bool true)) : KMk Tab2 43 #[.int .i64 no, .string s] (.int .i64 0) := by
  intro w hT
  go_enter Tryd.func43, Tryd.ntmps43
  go_wp2_with fail
  refine c1.calls0 hT ?_
  intro w1 h1
  have HSB := Lib.hid (Since.alloc h1 (.cells #[.string x, .int .i64 n, .string y, .int .i64 c, .string z] 59))
  have HTB := Lib.hid (Kp.keep hT HSB.out)
  clear hT h1
  go_wp2_with fail
  refine c2.calls0 HTB.out ?_
  intro w2 h2
  have HSC := Lib.hid (HSB.out.step h2)
  clear h2
  go_wp2_with fail
  go_ret
  exact ⟨rfl, HSC.out⟩
theorem check_k (no : Int) (s : ByteArray) (hm : s.size ≤ 140737488355328) (E : Int) (hE : E = chkE (rowOf no) s.data.toList) : KMk Tab2 43 #[.int .i64 no, .string s] (.int .i64 E) := by
  subst hE
  have c1 := KMk.t2 (by_k no)
  unfold rowV at c1
  unfold chkE
  have hl : s.data.toList.length = s.size := rfl
  rw [hl]
  by_cases h0 : (rowOf no).2.1 = 0
  · rw [if_pos h0]; exact chk_0 no s _ _ _ _ _ (beq_iff_eq.2 h0) c1
  · rw [if_neg h0]
    by_cases h1 : (s.size : Int) ≠ (rowOf no).2.1
    · rw [if_pos h1]; exact chk_l no s _ _ _ _ _ (beq_eq_false_iff_ne.2 h0) (bne_iff_ne.2 h1) c1
    · have h1' : (s.size : Int) = (rowOf no).2.1 := by omega
      rw [if_neg h1]
      by_cases h2 : (rowOf no).2.2.2.1 = 0
      · rw [if_neg (fun h => h.1 h2)]; exact chk_n no s _ _ _ _ _ (beq_eq_false_iff_ne.2 h0) (bne_eq_false_iff_eq.2 h1') (bne_eq_false_iff_eq.2 h2) c1
      · have c2 : KMk Tab2 24 #[.int .i64 (rowOf no).2.2.2.1, .string s] (.bool (Curve.scB (Curve.rowOf (rowOf no).2.2.2.1) s.data.toList)) := (Curve.scalar_k _ s hm _ rfl).weak (fun _ h => h.2)
        cases hq : Curve.scB (Curve.rowOf (rowOf no).2.2.2.1) s.data.toList with
        | false =>
          rw [hq] at c2
          rw [if_pos ⟨h2, rfl⟩]; exact chk_f no s _ _ _ _ _ (beq_eq_false_iff_ne.2 h0) (bne_eq_false_iff_eq.2 h1') (bne_iff_ne.2 h2) c1 c2
        | true =>
          rw [hq] at c2
          rw [if_neg (fun h => by cases h.2)]; exact chk_t no s _ _ _ _ _ (beq_eq_false_iff_ne.2 h0) (bne_eq_false_iff_eq.2 h1') (bne_iff_ne.2 h2) c1 c2
set_option maxRecDepth 100000 in
theorem rchk_0 (no : Int) (s : ByteArray) (n _c : Int) (hn : (n == 0) = true) (c1 : Ret 36 #[.int .i64 no] (.int .i64 n)) : Mak 44 #[.int .i64 no, .string s] (.int .i64 8) := by
  intro w
  have HS := Lib.hid (Since.refl w)
  go_enter Tryd.func44, Tryd.ntmps44
  go_wp2_with fail
  repeat (first
    | (with_reducible refine c1.calls ?_; try go_wp2_with fail))
  go_ret
  exact ⟨rfl, HS.out⟩
set_option maxRecDepth 100000 in
theorem rchk_l (no : Int) (s : ByteArray) (n _c : Int) (hn : (n == 0) = false) (hl : ((s.size : Int) != n) = true) (c1 : Ret 36 #[.int .i64 no] (.int .i64 n)) : Mak 44 #[.int .i64 no, .string s] (.int .i64 9) := by
  intro w
  have HS := Lib.hid (Since.refl w)
  go_enter Tryd.func44, Tryd.ntmps44
  go_wp2_with fail
  repeat (first
    | (with_reducible refine c1.calls ?_; try go_wp2_with fail))
  go_ret
  exact ⟨rfl, HS.out⟩
set_option maxRecDepth 100000 in
theorem rchk_n (no : Int) (s : ByteArray) (n c : Int) (hn : (n == 0) = false) (hl : ((s.size : Int) != n) = false) (hc : decide (0 < c) = false) (c1 : Ret 36 #[.int .i64 no] (.int .i64 n)) (c2 : Ret 40 #[.int .i64 no] (.int .i64 c)) : Mak 44 #[.int .i64 no, .string s] (.int .i64 0) := by
  intro w
  have HS := Lib.hid (Since.refl w)
  go_enter Tryd.func44, Tryd.ntmps44
  go_wp2_with fail
  repeat (first
    | (with_reducible refine c1.calls ?_; try go_wp2_with fail)
    | (with_reducible refine c2.calls ?_; try go_wp2_with fail))
  go_ret
  exact ⟨rfl, HS.out⟩
set_option maxRecDepth 100000 in
theorem rchk_f (no : Int) (s : ByteArray) (n c : Int) (hn : (n == 0) = false) (hl : ((s.size : Int) != n) = false) (hc : decide (0 < c) = true) (c1 : Ret 36 #[.int .i64 no] (.int .i64 n)) (c2 : Ret 40 #[.int .i64 no] (.int .i64 c)) (c3 : Mak 25 #[.int .i64 c, .string s] (.bool false)) : Mak 44 #[.int .i64 no, .string s] (.int .i64 10) := by
  intro w
  have HS := Lib.hid (Since.refl w)
  go_enter Tryd.func44, Tryd.ntmps44
  go_wp2_with fail
  repeat (first
    | (with_reducible refine c1.calls ?_; try go_wp2_with fail)
    | (with_reducible refine c2.calls ?_; try go_wp2_with fail)
    | (with_reducible refine c3.calls HS.out ?_; intro wz hz; replace HS := Lib.hid hz; clear hz; try go_wp2_with fail))
  go_ret
  exact ⟨rfl, HS.out⟩
set_option maxRecDepth 100000 in
theorem rchk_t (no : Int) (s : ByteArray) (n c : Int) (hn : (n == 0) = false) (hl : ((s.size : Int) != n) = false) (hc : decide (0 < c) = true) (c1 : Ret 36 #[.int .i64 no] (.int .i64 n)) (c2 : Ret 40 #[.int .i64 no] (.int .i64 c)) (c3 : Mak 25 #[.int .i64 c, .string s] (.bool true)) : Mak 44 #[.int .i64 no, .string s] (.int .i64 0) := by
  intro w
  have HS := Lib.hid (Since.refl w)
  go_enter Tryd.func44, Tryd.ntmps44
  go_wp2_with fail
  repeat (first
    | (with_reducible refine c1.calls ?_; try go_wp2_with fail)
    | (with_reducible refine c2.calls ?_; try go_wp2_with fail)
    | (with_reducible refine c3.calls HS.out ?_; intro wz hz; replace HS := Lib.hid hz; clear hz; try go_wp2_with fail))
  go_ret
  exact ⟨rfl, HS.out⟩
theorem row_curve (no : Int) : 0 ≤ (rowOf no).2.2.2.1 := by
  unfold rowOf
  split
  · rename_i h
    have hall : ∀ r ∈ rows, 0 ≤ r.2.2.2.1 := by decide +kernel
    cases hr : rows[(no - 1).toNat]? with
    | none => exact Int.le_refl 0
    | some r => exact hall r (List.mem_of_getElem? hr)
  · exact Int.le_refl 0
theorem rcheck_mak (no : Int) (s : ByteArray) (hm : s.size ≤ 140737488355328) (E : Int) (hE : E = chkE (rowOf no) s.data.toList) : Mak 44 #[.int .i64 no, .string s] (.int .i64 E) := by
  subst hE
  have c1 := rsize_ret no _ rfl
  have c2 := rcurve_ret no _ rfl
  have hcv := row_curve no
  unfold chkE
  have hl : s.data.toList.length = s.size := rfl
  rw [hl]
  by_cases h0 : (rowOf no).2.1 = 0
  · rw [if_pos h0]; exact rchk_0 no s _ 0 (beq_iff_eq.2 h0) c1
  · rw [if_neg h0]
    by_cases h1 : (s.size : Int) ≠ (rowOf no).2.1
    · rw [if_pos h1]; exact rchk_l no s _ 0 (beq_eq_false_iff_ne.2 h0) (bne_iff_ne.2 h1) c1
    · have h1' : (s.size : Int) = (rowOf no).2.1 := by omega
      rw [if_neg h1]
      by_cases h2 : (rowOf no).2.2.2.1 = 0
      · rw [if_neg (fun h => h.1 h2)]; exact rchk_n no s _ _ (beq_eq_false_iff_ne.2 h0) (bne_eq_false_iff_eq.2 h1') (decide_eq_false (by omega)) c1 c2
      · have c3 := Curve.rscalar_mak (rowOf no).2.2.2.1 s hm _ rfl
        cases hq : Curve.scB (Curve.rowOf (rowOf no).2.2.2.1) s.data.toList with
        | false =>
          rw [hq] at c3
          rw [if_pos ⟨h2, rfl⟩]; exact rchk_f no s _ _ (beq_eq_false_iff_ne.2 h0) (bne_eq_false_iff_eq.2 h1') (decide_eq_true (by omega)) c1 c2 c3
        | true =>
          rw [hq] at c3
          rw [if_neg (fun h => by cases h.2)]; exact rchk_t no s _ _ (beq_eq_false_iff_ne.2 h0) (bne_eq_false_iff_eq.2 h1') (decide_eq_true (by omega)) c1 c2 c3
set_option maxRecDepth 100000 in
set_option maxHeartbeats 4000000 in
theorem awake_core (c1 : KMk Tab2 29 #[.string ⟨#[84]⟩, .int .i64 24] (.tuple #[.int .i64 5, .bool true])) (c2 : KMk Tab2 31 #[.string ⟨#[69]⟩] (.int .i64 66)) (c3 : KMk Tab2 33 #[.int .i64 9] (.string ⟨#[69, 67, 45, 80, 50, 53, 54]⟩)) (c4 : KMk Tab2 35 #[.int .i64 1] (.int .i64 16))
    (c5 : KMk Tab2 37 #[.int .i64 7] (.string ⟨#[72]⟩)) (c6 : KMk Tab2 39 #[.int .i64 11] (.int .i64 4)) (c7 : KMk Tab2 43 #[.int .i64 1, .string ⟨#[48]⟩] (.int .i64 9)) : KMk Tab2 26 #[] (.bool true) := by
  intro w hT
  have HS := Lib.hid (Since.refl w)
  have HT := Lib.hid hT
  clear hT
  go_enter Tryd.func26, Tryd.ntmps26
  go_wp2_with fail
  repeat (first
    | (with_reducible refine c1.calls0 HT.out ?_; intro wz hz; replace HT := Lib.hid (Kp.keep HT.out hz); replace HS := Lib.hid (HS.out.step hz); clear hz; try go_wp2_with fail)
    | (with_reducible refine c2.calls0 HT.out ?_; intro wz hz; replace HT := Lib.hid (Kp.keep HT.out hz); replace HS := Lib.hid (HS.out.step hz); clear hz; try go_wp2_with fail)
    | (with_reducible refine c3.calls0 HT.out ?_; intro wz hz; replace HT := Lib.hid (Kp.keep HT.out hz); replace HS := Lib.hid (HS.out.step hz); clear hz; try go_wp2_with fail)
    | (with_reducible refine c4.calls0 HT.out ?_; intro wz hz; replace HT := Lib.hid (Kp.keep HT.out hz); replace HS := Lib.hid (HS.out.step hz); clear hz; try go_wp2_with fail)
    | (with_reducible refine c5.calls0 HT.out ?_; intro wz hz; replace HT := Lib.hid (Kp.keep HT.out hz); replace HS := Lib.hid (HS.out.step hz); clear hz; try go_wp2_with fail)
    | (with_reducible refine c6.calls0 HT.out ?_; intro wz hz; replace HT := Lib.hid (Kp.keep HT.out hz); replace HS := Lib.hid (HS.out.step hz); clear hz; try go_wp2_with fail)
    | (with_reducible refine c7.calls0 HT.out ?_; intro wz hz; replace HT := Lib.hid (Kp.keep HT.out hz); replace HS := Lib.hid (HS.out.step hz); clear hz; try go_wp2_with fail))
  go_ret
  exact ⟨rfl, HS.out⟩
theorem awake_k : KMk Tab2 26 #[] (.bool true) :=
  awake_core (KMk.t2 (of_k ⟨#[84]⟩ 24 5 true (by decide +kernel))) (KMk.t2 (most_k ⟨#[69]⟩ 66 (by decide +kernel))) (KMk.t2 (name_k 9 _ rfl)) (KMk.t2 (size_k 1 16 (by decide +kernel))) (KMk.t2 (letter_k 7 _ rfl)) (KMk.t2 (curve_k 11 4 (by decide +kernel))) (check_k 1 ⟨#[48]⟩ (by decide) 9 (by decide +kernel))
set_option maxRecDepth 100000 in
theorem tabs4_of {W : World} (h : laidMetH Tryd.prog [("unicode/utf8.acceptRanges", Rows.laid_unicode_utf8_acceptRanges), ("claviger/curve.lines", Rows.laid_claviger_curve_lines), ("claviger/kind.lines", Rows.laid_claviger_kind_lines), ("unicode/utf8.first", Rows.laid_unicode_utf8_first)] W) : Tab2 W := by
  rw [MakeChecks.laidMetH_plain _ _ _ (by kernel_rfl)] at h
  obtain ⟨ps, ⟨_, _, _, _, _, _, _, _, _, _, ⟨g0, t0, cs0, f0, p0, q0, hg0, ht0, hv0, hd0, ⟨g1, t1, cs1, f1, p1, q1, hg1, ht1, hv1, hd1, _, _⟩, _⟩, _⟩, _, _⟩ := h
  exact ⟨tabs_at hg1 ht1 hv1 hd1, Curve.tabs_at hg0 ht0 hv0 hd0⟩
end Kind
end Go.Proofs.YtpakifiphdlkoaaDoor

/- Package load: how long payloads are; the reference's too. -/
namespace Go.Proofs.YtpakifiphdlkoaaDoor
open Go.RowKit
namespace Load
open Kind (Tab2)
open Kind
/-- how long a payload is, of the most bytes of a letter's kinds -/
def tot (m : Int) : Int := if m = 0 then 0 else if m = 32 then 48 else if m = 24 then 32 else 80
theorem most_vals (l : List UInt8) : Kind.mostN l = 0 ∨ Kind.mostN l = 24 ∨ Kind.mostN l = 32 ∨ Kind.mostN l = 64 ∨ Kind.mostN l = 66 := by
  by_cases h1 : l = [65]
  · subst h1; exact Or.inr (Or.inr (Or.inl (by decide +kernel)))
  · by_cases h2 : l = [84]
    · subst h2; exact Or.inr (Or.inl (by decide +kernel))
    · by_cases h3 : l = [72]
      · subst h3; exact Or.inr (Or.inr (Or.inr (Or.inl (by decide +kernel))))
      · by_cases h4 : l = [69]
        · subst h4; exact Or.inr (Or.inr (Or.inr (Or.inr (by decide +kernel))))
        · refine Or.inl ?_
          have hn : (Kind.rows.take 11).filter (fun r => r.2.2.1 == l) = [] := by
            rw [List.filter_eq_nil_iff]
            intro r hr h
            have hall : ∀ r ∈ Kind.rows.take 11, r.2.2.1 = [65] ∨ r.2.2.1 = [84] ∨ r.2.2.1 = [72] ∨ r.2.2.1 = [69] := by decide +kernel
            rw [beq_iff_eq] at h
            rcases hall r hr with h5 | h5 | h5 | h5
            · exact h1 (h.symm.trans h5)
            · exact h2 (h.symm.trans h5)
            · exact h3 (h.symm.trans h5)
            · exact h4 (h.symm.trans h5)
          unfold Kind.mostN Kind.mostF
          rw [hn]; rfl
set_option maxRecDepth 100000 in
theorem tot_0 (l : ByteArray) (c1 : KMk Tab2 31 #[.string l] (.int .i64 0)) : KMk Tab2 50 #[.string l] (.int .i64 0) := by
  intro w hT
  have HS := Lib.hid (Since.refl w)
  have HT := Lib.hid hT
  clear hT
  go_enter Tryd.func50, Tryd.ntmps50
  go_wp2_with fail
  repeat (first
    | (with_reducible refine c1.calls0 HT.out ?_; intro wz hz; replace HT := Lib.hid (Kp.keep HT.out hz); replace HS := Lib.hid (HS.out.step hz); clear hz; try go_wp2_with fail))
  go_ret
  exact ⟨rfl, HS.out⟩
set_option maxRecDepth 100000 in
theorem tot_24 (l : ByteArray) (c1 : KMk Tab2 31 #[.string l] (.int .i64 24)) : KMk Tab2 50 #[.string l] (.int .i64 32) := by
  intro w hT
  have HS := Lib.hid (Since.refl w)
  have HT := Lib.hid hT
  clear hT
  go_enter Tryd.func50, Tryd.ntmps50
  go_wp2_with fail
  repeat (first
    | (with_reducible refine c1.calls0 HT.out ?_; intro wz hz; replace HT := Lib.hid (Kp.keep HT.out hz); replace HS := Lib.hid (HS.out.step hz); clear hz; try go_wp2_with fail))
  go_ret
  exact ⟨rfl, HS.out⟩
set_option maxRecDepth 100000 in
theorem tot_32 (l : ByteArray) (c1 : KMk Tab2 31 #[.string l] (.int .i64 32)) : KMk Tab2 50 #[.string l] (.int .i64 48) := by
  intro w hT
  have HS := Lib.hid (Since.refl w)
  have HT := Lib.hid hT
  clear hT
  go_enter Tryd.func50, Tryd.ntmps50
  go_wp2_with fail
  repeat (first
    | (with_reducible refine c1.calls0 HT.out ?_; intro wz hz; replace HT := Lib.hid (Kp.keep HT.out hz); replace HS := Lib.hid (HS.out.step hz); clear hz; try go_wp2_with fail))
  go_ret
  exact ⟨rfl, HS.out⟩
set_option maxRecDepth 100000 in
theorem tot_64 (l : ByteArray) (c1 : KMk Tab2 31 #[.string l] (.int .i64 64)) : KMk Tab2 50 #[.string l] (.int .i64 80) := by
  intro w hT
  have HS := Lib.hid (Since.refl w)
  have HT := Lib.hid hT
  clear hT
  go_enter Tryd.func50, Tryd.ntmps50
  go_wp2_with fail
  repeat (first
    | (with_reducible refine c1.calls0 HT.out ?_; intro wz hz; replace HT := Lib.hid (Kp.keep HT.out hz); replace HS := Lib.hid (HS.out.step hz); clear hz; try go_wp2_with fail))
  go_ret
  exact ⟨rfl, HS.out⟩
set_option maxRecDepth 100000 in
theorem tot_66 (l : ByteArray) (c1 : KMk Tab2 31 #[.string l] (.int .i64 66)) : KMk Tab2 50 #[.string l] (.int .i64 80) := by
  intro w hT
  have HS := Lib.hid (Since.refl w)
  have HT := Lib.hid hT
  clear hT
  go_enter Tryd.func50, Tryd.ntmps50
  go_wp2_with fail
  repeat (first
    | (with_reducible refine c1.calls0 HT.out ?_; intro wz hz; replace HT := Lib.hid (Kp.keep HT.out hz); replace HS := Lib.hid (HS.out.step hz); clear hz; try go_wp2_with fail))
  go_ret
  exact ⟨rfl, HS.out⟩
theorem total_k (l : ByteArray) (X : Int) (hX : X = tot (Kind.mostN l.data.toList)) : KMk Tab2 50 #[.string l] (.int .i64 X) := by
  subst hX
  have c1 := KMk.t2 (Kind.most_k l _ rfl)
  rcases most_vals l.data.toList with h | h | h | h | h
  all_goals rw [h] at c1 ⊢
  · exact tot_0 l c1
  · exact tot_24 l c1
  · exact tot_32 l c1
  · exact tot_64 l c1
  · exact tot_66 l c1
set_option maxRecDepth 100000 in
theorem rtot_0 (l : ByteArray) (c1 : Ret 32 #[.string l] (.int .i64 0)) : Ret 51 #[.string l] (.int .i64 0) := by
  intro w
  go_enter Tryd.func51, Tryd.ntmps51
  go_wp2_with fail
  repeat (first
    | (with_reducible refine c1.calls ?_; try go_wp2_with fail))
  go_ret
  exact ⟨rfl, rfl⟩
set_option maxRecDepth 100000 in
theorem rtot_24 (l : ByteArray) (c1 : Ret 32 #[.string l] (.int .i64 24)) : Ret 51 #[.string l] (.int .i64 32) := by
  intro w
  go_enter Tryd.func51, Tryd.ntmps51
  go_wp2_with fail
  repeat (first
    | (with_reducible refine c1.calls ?_; try go_wp2_with fail))
  go_loop [3] (fun i => ∃ k : Nat, 24 + 2 ≤ k ∧ k ≤ 32 ∧ i = .int .i64 (k : Int)) (fun i => 32 - (intOf i).toNat)
  case atStart => exact ⟨24 + 2, by omega, by omega, rfl⟩
  case round =>
    obtain ⟨k, hk0, hk, rfl⟩ := hrel
    by_cases hlt : k < 32
    · have t1 : ((k : Int) % 16 != 0) = true := by rw [bne_iff_ne]; omega
      go_wp2_with fail
      go_round
      case rel => exact ⟨k + 1, by omega, by omega, by go_num⟩
      case measure => simp [intOf]; omega
    · obtain rfl : k = 32 := by omega
      go_wp2_with fail
      go_ret
      exact ⟨rfl, rfl⟩
set_option maxRecDepth 100000 in
theorem rtot_32 (l : ByteArray) (c1 : Ret 32 #[.string l] (.int .i64 32)) : Ret 51 #[.string l] (.int .i64 48) := by
  intro w
  go_enter Tryd.func51, Tryd.ntmps51
  go_wp2_with fail
  repeat (first
    | (with_reducible refine c1.calls ?_; try go_wp2_with fail))
  go_loop [3] (fun i => ∃ k : Nat, 32 + 2 ≤ k ∧ k ≤ 48 ∧ i = .int .i64 (k : Int)) (fun i => 48 - (intOf i).toNat)
  case atStart => exact ⟨32 + 2, by omega, by omega, rfl⟩
  case round =>
    obtain ⟨k, hk0, hk, rfl⟩ := hrel
    by_cases hlt : k < 48
    · have t1 : ((k : Int) % 16 != 0) = true := by rw [bne_iff_ne]; omega
      go_wp2_with fail
      go_round
      case rel => exact ⟨k + 1, by omega, by omega, by go_num⟩
      case measure => simp [intOf]; omega
    · obtain rfl : k = 48 := by omega
      go_wp2_with fail
      go_ret
      exact ⟨rfl, rfl⟩
set_option maxRecDepth 100000 in
theorem rtot_64 (l : ByteArray) (c1 : Ret 32 #[.string l] (.int .i64 64)) : Ret 51 #[.string l] (.int .i64 80) := by
  intro w
  go_enter Tryd.func51, Tryd.ntmps51
  go_wp2_with fail
  repeat (first
    | (with_reducible refine c1.calls ?_; try go_wp2_with fail))
  go_loop [3] (fun i => ∃ k : Nat, 64 + 2 ≤ k ∧ k ≤ 80 ∧ i = .int .i64 (k : Int)) (fun i => 80 - (intOf i).toNat)
  case atStart => exact ⟨64 + 2, by omega, by omega, rfl⟩
  case round =>
    obtain ⟨k, hk0, hk, rfl⟩ := hrel
    by_cases hlt : k < 80
    · have t1 : ((k : Int) % 16 != 0) = true := by rw [bne_iff_ne]; omega
      go_wp2_with fail
      go_round
      case rel => exact ⟨k + 1, by omega, by omega, by go_num⟩
      case measure => simp [intOf]; omega
    · obtain rfl : k = 80 := by omega
      go_wp2_with fail
      go_ret
      exact ⟨rfl, rfl⟩
set_option maxRecDepth 100000 in
theorem rtot_66 (l : ByteArray) (c1 : Ret 32 #[.string l] (.int .i64 66)) : Ret 51 #[.string l] (.int .i64 80) := by
  intro w
  go_enter Tryd.func51, Tryd.ntmps51
  go_wp2_with fail
  repeat (first
    | (with_reducible refine c1.calls ?_; try go_wp2_with fail))
  go_loop [3] (fun i => ∃ k : Nat, 66 + 2 ≤ k ∧ k ≤ 80 ∧ i = .int .i64 (k : Int)) (fun i => 80 - (intOf i).toNat)
  case atStart => exact ⟨66 + 2, by omega, by omega, rfl⟩
  case round =>
    obtain ⟨k, hk0, hk, rfl⟩ := hrel
    by_cases hlt : k < 80
    · have t1 : ((k : Int) % 16 != 0) = true := by rw [bne_iff_ne]; omega
      go_wp2_with fail
      go_round
      case rel => exact ⟨k + 1, by omega, by omega, by go_num⟩
      case measure => simp [intOf]; omega
    · obtain rfl : k = 80 := by omega
      go_wp2_with fail
      go_ret
      exact ⟨rfl, rfl⟩
theorem rtotal_ret (l : ByteArray) (X : Int) (hX : X = tot (Kind.mostN l.data.toList)) : Ret 51 #[.string l] (.int .i64 X) := by
  subst hX
  have c1 := Kind.rmost_ret l _ rfl
  rcases most_vals l.data.toList with h | h | h | h | h
  all_goals rw [h] at c1 ⊢
  · exact rtot_0 l c1
  · exact rtot_24 l c1
  · exact rtot_32 l c1
  · exact rtot_64 l c1
  · exact rtot_66 l c1
/-- how many pads a line's payload has -/
def padsI (r : Kind.Row) : Int := if r.2.1 = 0 then 0 else tot (Kind.mostN r.2.2.1) - 2 - r.2.1
set_option maxRecDepth 100000 in
theorem pads_0 (no : Int) (c1 : KMk Tab2 35 #[.int .i64 no] (.int .i64 0)) : KMk Tab2 52 #[.int .i64 no] (.int .i64 0) := by
  intro w hT
  have HS := Lib.hid (Since.refl w)
  have HT := Lib.hid hT
  clear hT
  go_enter Tryd.func52, Tryd.ntmps52
  go_wp2_with fail
  repeat (first
    | (with_reducible refine c1.calls0 HT.out ?_; intro wz hz; replace HT := Lib.hid (Kp.keep HT.out hz); replace HS := Lib.hid (HS.out.step hz); clear hz; try go_wp2_with fail))
  go_ret
  exact ⟨rfl, HS.out⟩
set_option maxRecDepth 100000 in
theorem pads_l (no n t : Int) (l : ByteArray) (hn : (n == 0) = false) (h0 : 0 ≤ n ∧ n ≤ 100) (h1 : 0 ≤ t ∧ t ≤ 100) (c1 : KMk Tab2 35 #[.int .i64 no] (.int .i64 n)) (c2 : KMk Tab2 37 #[.int .i64 no] (.string l)) (c3 : KMk Tab2 50 #[.string l] (.int .i64 t)) : KMk Tab2 52 #[.int .i64 no] (.int .i64 (t - 2 - n)) := by
  intro w hT
  have HS := Lib.hid (Since.refl w)
  have HT := Lib.hid hT
  have e1 : IntKind.i64.wrap (t - 2) = t - 2 := IntWalk.i64_in _ (by omega)
  have e2 : IntKind.i64.wrap (t - 2 - n) = t - 2 - n := IntWalk.i64_in _ (by omega)
  clear hT
  go_enter Tryd.func52, Tryd.ntmps52
  go_wp2_with fail
  repeat (first
    | (with_reducible refine c1.calls0 HT.out ?_; intro wz hz; replace HT := Lib.hid (Kp.keep HT.out hz); replace HS := Lib.hid (HS.out.step hz); clear hz; try go_wp2_with fail)
    | (with_reducible refine c2.calls0 HT.out ?_; intro wz hz; replace HT := Lib.hid (Kp.keep HT.out hz); replace HS := Lib.hid (HS.out.step hz); clear hz; try go_wp2_with fail)
    | (with_reducible refine c3.calls0 HT.out ?_; intro wz hz; replace HT := Lib.hid (Kp.keep HT.out hz); replace HS := Lib.hid (HS.out.step hz); clear hz; try go_wp2_with fail))
  go_ret
  exact ⟨rfl, HS.out⟩
set_option maxRecDepth 100000 in
theorem rpads_0 (no : Int) (c1 : Ret 36 #[.int .i64 no] (.int .i64 0)) : Ret 53 #[.int .i64 no] (.int .i64 0) := by
  intro w
  go_enter Tryd.func53, Tryd.ntmps53
  go_wp2_with fail
  repeat (first
    | (with_reducible refine c1.calls ?_; try go_wp2_with fail))
  go_ret
  exact ⟨rfl, rfl⟩
set_option maxRecDepth 100000 in
theorem rpads_l (no n t : Int) (l : ByteArray) (hn : (n == 0) = false) (h0 : 0 ≤ n ∧ n ≤ 100) (h1 : 0 ≤ t ∧ t ≤ 100) (c1 : Ret 36 #[.int .i64 no] (.int .i64 n)) (c2 : Ret 38 #[.int .i64 no] (.string l)) (c3 : Ret 51 #[.string l] (.int .i64 t)) : Ret 53 #[.int .i64 no] (.int .i64 (t - 2 - n)) := by
  intro w
  have e1 : IntKind.i64.wrap (t - 2) = t - 2 := IntWalk.i64_in _ (by omega)
  have e2 : IntKind.i64.wrap (t - 2 - n) = t - 2 - n := IntWalk.i64_in _ (by omega)
  go_enter Tryd.func53, Tryd.ntmps53
  go_wp2_with fail
  repeat (first
    | (with_reducible refine c1.calls ?_; try go_wp2_with fail)
    | (with_reducible refine c2.calls ?_; try go_wp2_with fail)
    | (with_reducible refine c3.calls ?_; try go_wp2_with fail))
  go_ret
  exact ⟨rfl, rfl⟩
theorem row_size (no : Int) : 0 ≤ (Kind.rowOf no).2.1 ∧ (Kind.rowOf no).2.1 ≤ 100 := by
  unfold Kind.rowOf
  split
  · have hall : ∀ r ∈ Kind.rows, 0 ≤ r.2.1 ∧ r.2.1 ≤ 100 := by decide +kernel
    cases hr : Kind.rows[(no - 1).toNat]? with
    | none => exact ⟨Int.le_refl 0, by decide⟩
    | some r => exact hall r (List.mem_of_getElem? hr)
  · exact ⟨Int.le_refl 0, by decide⟩
theorem tot_bounds (l : List UInt8) : 0 ≤ tot (Kind.mostN l) ∧ tot (Kind.mostN l) ≤ 100 := by
  rcases most_vals l with h | h | h | h | h <;> rw [h] <;> decide
theorem pads_k (no X : Int) (hX : X = padsI (Kind.rowOf no)) : KMk Tab2 52 #[.int .i64 no] (.int .i64 X) := by
  subst hX
  have c1 := KMk.t2 (Kind.size_k no _ rfl)
  unfold padsI
  by_cases h : (Kind.rowOf no).2.1 = 0
  · rw [if_pos h]; rw [h] at c1; exact pads_0 no c1
  · rw [if_neg h]
    have c3 := total_k (bs (Kind.rowOf no).2.2.1) _ rfl
    rw [list_bs] at c3
    exact pads_l no _ _ _ (beq_eq_false_iff_ne.2 h) (row_size no) (tot_bounds _) c1 (KMk.t2 (Kind.letter_k no _ rfl)) c3
theorem rpads_ret (no X : Int) (hX : X = padsI (Kind.rowOf no)) : Ret 53 #[.int .i64 no] (.int .i64 X) := by
  subst hX
  have c1 := Kind.rsize_ret no _ rfl
  unfold padsI
  by_cases h : (Kind.rowOf no).2.1 = 0
  · rw [if_pos h]; rw [h] at c1; exact rpads_0 no c1
  · rw [if_neg h]
    have c3 := rtotal_ret (bs (Kind.rowOf no).2.2.1) _ rfl
    rw [list_bs] at c3
    exact rpads_l no _ _ _ (beq_eq_false_iff_ne.2 h) (row_size no) (tot_bounds _) c1 (Kind.rletter_ret no _ rfl) c3
end Load
end Go.Proofs.YtpakifiphdlkoaaDoor

/- Package load: payloads made. -/
namespace Go.Proofs.YtpakifiphdlkoaaDoor
open Go.RowKit
namespace Load
open Kind (Tab2)
open Kind
set_option maxRecDepth 100000 in
theorem make_err (no E : Int) (key pads : ByteArray) (hE : (E != 0) = true) (c1 : KMk Tab2 43 #[.int .i64 no, .string key] (.int .i64 E)) : KMk Tab2 46 #[.int .i64 no, .string key, .string pads] (.tuple #[.string ⟨#[]⟩, .int .i64 E]) := by
  intro w hT
  have HS := Lib.hid (Since.refl w)
  have HT := Lib.hid hT
  clear hT
  go_enter Tryd.func46, Tryd.ntmps46
  go_wp2_with fail
  repeat (first
    | (with_reducible refine c1.calls0 HT.out ?_; intro wz hz; replace HT := Lib.hid (Kp.keep HT.out hz); replace HS := Lib.hid (HS.out.step hz); clear hz; try go_wp2_with fail))
  go_ret2
  exact ⟨rfl, HS.out⟩
set_option maxRecDepth 100000 in
theorem make_pad (no n : Int) (key pads : ByteArray) (hn : ((pads.size : Int) != n) = true) (c1 : KMk Tab2 43 #[.int .i64 no, .string key] (.int .i64 0)) (c2 : KMk Tab2 52 #[.int .i64 no] (.int .i64 n)) : KMk Tab2 46 #[.int .i64 no, .string key, .string pads] (.tuple #[.string ⟨#[]⟩, .int .i64 13]) := by
  intro w hT
  have HS := Lib.hid (Since.refl w)
  have HT := Lib.hid hT
  clear hT
  go_enter Tryd.func46, Tryd.ntmps46
  go_wp2_with fail
  repeat (first
    | (with_reducible refine c1.calls0 HT.out ?_; intro wz hz; replace HT := Lib.hid (Kp.keep HT.out hz); replace HS := Lib.hid (HS.out.step hz); clear hz; try go_wp2_with fail)
    | (with_reducible refine c2.calls0 HT.out ?_; intro wz hz; replace HT := Lib.hid (Kp.keep HT.out hz); replace HS := Lib.hid (HS.out.step hz); clear hz; try go_wp2_with fail))
  go_ret2
  exact ⟨rfl, HS.out⟩
set_option maxRecDepth 100000 in
theorem rmake_err (no E : Int) (key pads : ByteArray) (hE : (E != 0) = true) (c1 : Mak 44 #[.int .i64 no, .string key] (.int .i64 E)) : Mak 47 #[.int .i64 no, .string key, .string pads] (.tuple #[.string ⟨#[]⟩, .int .i64 E]) := by
  intro w
  have HS := Lib.hid (Since.refl w)
  go_enter Tryd.func47, Tryd.ntmps47
  go_wp2_with fail
  repeat (first
    | (with_reducible refine c1.calls HS.out ?_; intro wz hz; replace HS := Lib.hid hz; clear hz; try go_wp2_with fail))
  go_ret2
  exact ⟨rfl, HS.out⟩
set_option maxRecDepth 100000 in
theorem rmake_pad (no n : Int) (key pads : ByteArray) (hn : ((pads.size : Int) != n) = true) (c1 : Mak 44 #[.int .i64 no, .string key] (.int .i64 0)) (c2 : Ret 53 #[.int .i64 no] (.int .i64 n)) : Mak 47 #[.int .i64 no, .string key, .string pads] (.tuple #[.string ⟨#[]⟩, .int .i64 13]) := by
  intro w
  have HS := Lib.hid (Since.refl w)
  go_enter Tryd.func47, Tryd.ntmps47
  go_wp2_with fail
  repeat (first
    | (with_reducible refine c1.calls HS.out ?_; intro wz hz; replace HS := Lib.hid hz; clear hz; try go_wp2_with fail)
    | (with_reducible refine c2.calls ?_; try go_wp2_with fail))
  go_ret2
  exact ⟨rfl, HS.out⟩
set_option maxRecDepth 100000 in
theorem make_ok (no : Int) (key pads P X : ByteArray) (hk : key.size ≤ 100000) (hX : X = bs (Oct.cat [P, key, pads])) (hm : X.size ≤ 140737488355328) (c1 : KMk Tab2 43 #[.int .i64 no, .string key] (.int .i64 0)) (c2 : KMk Tab2 52 #[.int .i64 no] (.int .i64 (pads.size : Int))) (c3 : Mak 72 #[.int .u64 (8 * (key.size : Int)), .int .i64 2] (.string P)) : KMk Tab2 46 #[.int .i64 no, .string key, .string pads] (.tuple #[.string X, .int .i64 0]) := by
  intro w hT
  have HS := Lib.hid (Since.refl w)
  have HT := Lib.hid hT
  have e1 : IntKind.i64.wrap (8 * (key.size : Int)) = 8 * (key.size : Int) := IntWalk.i64_in _ (by omega)
  have e2 : IntKind.u64.wrap (8 * (key.size : Int)) = 8 * (key.size : Int) := IntWalk.u64_in _ (by omega)
  have HJ := Lib.hid (fun W => Oct.join_lit W [P, key, pads] 3 rfl #[.string P, .string key, .string pads] rfl X hX hm (by decide))
  clear hT hX
  go_enter Tryd.func46, Tryd.ntmps46
  go_wp2_with fail
  repeat (first
    | (with_reducible refine c1.calls0 HT.out ?_; intro wz hz; replace HT := Lib.hid (Kp.keep HT.out hz); replace HS := Lib.hid (HS.out.step hz); clear hz; try go_wp2_with fail)
    | (with_reducible refine c2.calls0 HT.out ?_; intro wz hz; replace HT := Lib.hid (Kp.keep HT.out hz); replace HS := Lib.hid (HS.out.step hz); clear hz; try go_wp2_with fail)
    | (with_reducible refine c3.calls0 ?_; intro wz hz; replace HT := Lib.hid (Kp.keep HT.out hz); replace HS := Lib.hid (HS.out.step hz); clear hz; try go_wp2_with fail))
  refine (HJ.out _).mono ?_
  rintro e w4 ⟨rfl, h4⟩
  have HS4 := Lib.hid (Since.step HS.out h4)
  clear h4
  go_wp2_with fail
  go_ret2
  exact ⟨rfl, HS4.out⟩
set_option maxRecDepth 100000 in
theorem rmake_ok (no : Int) (key pads P Q X : ByteArray) (hk : key.size ≤ 100000) (hp : pads.size ≤ 100000) (h1 : P.size ≤ 100) (hQ : P ++ key = Q) (hQ2 : Q.size ≤ 100100) (hX : Q ++ pads = X) (c1 : Mak 44 #[.int .i64 no, .string key] (.int .i64 0)) (c2 : Ret 53 #[.int .i64 no] (.int .i64 (pads.size : Int))) (c3 : Mak 73 #[.int .u64 (8 * (key.size : Int)), .int .i64 2] (.string P)) : Mak 47 #[.int .i64 no, .string key, .string pads] (.tuple #[.string X, .int .i64 0]) := by
  intro w
  have HS := Lib.hid (Since.refl w)
  have e1 : IntKind.i64.wrap (8 * (key.size : Int)) = 8 * (key.size : Int) := IntWalk.i64_in _ (by omega)
  have e2 : IntKind.u64.wrap (8 * (key.size : Int)) = 8 * (key.size : Int) := IntWalk.u64_in _ (by omega)
  have f1 : ¬ 9223372036854775807 < P.size + key.size := by omega
  have f2 : ¬ 9223372036854775807 < Q.size + pads.size := by omega
  go_enter Tryd.func47, Tryd.ntmps47
  go_wp2_with fail
  repeat (first
    | (with_reducible refine c1.calls HS.out ?_; intro wz hz; replace HS := Lib.hid hz; clear hz; try go_wp2_with fail)
    | (with_reducible refine c2.calls ?_; try go_wp2_with fail)
    | (with_reducible refine c3.calls HS.out ?_; intro wz hz; replace HS := Lib.hid hz; clear hz; try go_wp2_with fail))
  go_ret2
  exact ⟨rfl, HS.out⟩
end Load
end Go.Proofs.YtpakifiphdlkoaaDoor

/- Package load: payloads taken: what is refused ahead of the kind. -/
namespace Go.Proofs.YtpakifiphdlkoaaDoor
open Go.RowKit
theorem results_tmp4 {fn : Func} {t u v x : Tmp} (h : fn.results = #[.tmp t, .tmp u, .tmp v, .tmp x]) (tmps : Array Value) (P : Program) (w : World) :
    (results fn tmps).run P w = .ok (.tuple #[tmps.getD t undef, tmps.getD u undef, tmps.getD v undef, tmps.getD x undef]) w := by
  simp [results, h]
namespace Load
open Kind (Tab2)
open Kind
/-- no kind, no key -/
def no4 (e : Int) : Value := .tuple #[.int .i64 0, .string ⟨#[]⟩, .string ⟨#[]⟩, .int .i64 e]
set_option maxRecDepth 100000 in
theorem take_none (l : ByteArray) : Ret 48 #[.string l, .string ⟨#[]⟩] (no4 5) := by
  intro w
  go_enter Tryd.func48, Tryd.ntmps48
  go_wp2_with fail
  refine bodyPost_ret (results_tmp4 rfl _ _ _) rfl ?_
  exact ⟨rfl, rfl⟩
set_option maxRecDepth 100000 in
theorem take_len (l s : ByteArray) (t : Int) (hs : 0 < s.size) (ht : ((s.size : Int) != t) = true) (c1 : KMk Tab2 50 #[.string l] (.int .i64 t)) : KMk Tab2 48 #[.string l, .string s] (no4 5) := by
  intro w hT
  have HS := Lib.hid (Since.refl w)
  have HT := Lib.hid hT
  have b1 := some_bytes s hs
  have b2 := some_bytes_f s hs
  clear hT
  go_enter Tryd.func48, Tryd.ntmps48
  go_wp2_with fail
  repeat (first
    | (with_reducible refine c1.calls0 HT.out ?_; intro wz hz; replace HT := Lib.hid (Kp.keep HT.out hz); replace HS := Lib.hid (HS.out.step hz); clear hz; try go_wp2_with fail))
  refine bodyPost_ret (results_tmp4 rfl _ _ _) rfl ?_
  exact ⟨rfl, HS.out⟩
set_option maxRecDepth 100000 in
theorem take_bits (l s h : ByteArray) (t b : Int) (hs : 2 ≤ s.size) (hm : s.size ≤ 1000) (ht : ((s.size : Int) != t) = false) (hh : s.extract 0 2 = h) (hb : 0 ≤ b ∧ b ≤ 65535) (h8 : (b % 8 != 0) = true) (c1 : KMk Tab2 50 #[.string l] (.int .i64 t)) (c2 : Mak 74 #[.string h] (.tuple #[.int .u64 b, .bool true])) : KMk Tab2 48 #[.string l, .string s] (no4 5) := by
  intro w hT
  have HS := Lib.hid (Since.refl w)
  have HT := Lib.hid hT
  have b1 := some_bytes s (by omega)
  have b2 := some_bytes_f s (by omega)
  have i1 : (2 : Int) ≤ (s.size : Int) := by omega
  have e1 : IntKind.i64.wrap (b / 8) = b / 8 := IntWalk.i64_in _ (by omega)
  have e2 : IntKind.u64.wrap (b / 8) = b / 8 := IntWalk.u64_in _ (by omega)
  have e3 : IntKind.u64.wrap (b % 8) = b % 8 := IntWalk.u64_in _ (by omega)
  clear hT
  go_enter Tryd.func48, Tryd.ntmps48
  go_wp2_with fail
  repeat (first
    | (with_reducible refine c1.calls0 HT.out ?_; intro wz hz; replace HT := Lib.hid (Kp.keep HT.out hz); replace HS := Lib.hid (HS.out.step hz); clear hz; try go_wp2_with fail)
    | (with_reducible refine c2.calls0 ?_; intro wz hz; replace HT := Lib.hid (Kp.keep HT.out hz); replace HS := Lib.hid (HS.out.step hz); clear hz; try go_wp2_with fail))
  refine bodyPost_ret (results_tmp4 rfl _ _ _) rfl ?_
  exact ⟨rfl, HS.out⟩
set_option maxRecDepth 100000 in
theorem take_long (l s h : ByteArray) (t b : Int) (n : Nat) (hs : 2 ≤ s.size) (hm : s.size ≤ 1000) (ht : ((s.size : Int) != t) = false) (hh : s.extract 0 2 = h) (hb : 0 ≤ b ∧ b ≤ 65535) (h8 : (b % 8 != 0) = false) (hn : b / 8 = (n : Int)) (hn9 : n ≤ 10000) (hl : decide ((s.size : Int) - 2 < (n : Int)) = true) (c1 : KMk Tab2 50 #[.string l] (.int .i64 t)) (c2 : Mak 74 #[.string h] (.tuple #[.int .u64 b, .bool true])) : KMk Tab2 48 #[.string l, .string s] (no4 5) := by
  intro w hT
  have HS := Lib.hid (Since.refl w)
  have HT := Lib.hid hT
  have b1 := some_bytes s (by omega)
  have b2 := some_bytes_f s (by omega)
  have i1 : (2 : Int) ≤ (s.size : Int) := by omega
  have e0 : IntKind.i64.wrap (n : Int) = (n : Int) := IntWalk.i64_in _ (by omega)
  have e2 : IntKind.u64.wrap (n : Int) = (n : Int) := IntWalk.u64_in _ (by omega)
  have e4 : IntKind.i64.wrap ((s.size : Int) - 2) = (s.size : Int) - 2 := IntWalk.i64_in _ (by omega)
  clear hT
  go_enter Tryd.func48, Tryd.ntmps48
  go_wp2_with fail
  repeat (first
    | (with_reducible refine c1.calls0 HT.out ?_; intro wz hz; replace HT := Lib.hid (Kp.keep HT.out hz); replace HS := Lib.hid (HS.out.step hz); clear hz; try go_wp2_with fail)
    | (with_reducible refine c2.calls0 ?_; intro wz hz; replace HT := Lib.hid (Kp.keep HT.out hz); replace HS := Lib.hid (HS.out.step hz); clear hz; try go_wp2_with fail))
  refine bodyPost_ret (results_tmp4 rfl _ _ _) rfl ?_
  exact ⟨rfl, HS.out⟩
set_option maxRecDepth 100000 in
theorem take_kind (l s h : ByteArray) (t b : Int) (n : Nat) (hs : 2 ≤ s.size) (hm : s.size ≤ 1000) (ht : ((s.size : Int) != t) = false) (hh : s.extract 0 2 = h) (hb : 0 ≤ b ∧ b ≤ 65535) (h8 : (b % 8 != 0) = false) (hn : b / 8 = (n : Int)) (hn9 : n ≤ 10000) (hl : decide ((s.size : Int) - 2 < (n : Int)) = false) (c1 : KMk Tab2 50 #[.string l] (.int .i64 t)) (c2 : Mak 74 #[.string h] (.tuple #[.int .u64 b, .bool true])) (c3 : KMk Tab2 29 #[.string l, .int .i64 (n : Int)] (.tuple #[.int .i64 0, .bool false])) : KMk Tab2 48 #[.string l, .string s] (no4 8) := by
  intro w hT
  have HS := Lib.hid (Since.refl w)
  have HT := Lib.hid hT
  have b1 := some_bytes s (by omega)
  have b2 := some_bytes_f s (by omega)
  have i1 : (2 : Int) ≤ (s.size : Int) := by omega
  have e0 : IntKind.i64.wrap (n : Int) = (n : Int) := IntWalk.i64_in _ (by omega)
  have e2 : IntKind.u64.wrap (n : Int) = (n : Int) := IntWalk.u64_in _ (by omega)
  have e4 : IntKind.i64.wrap ((s.size : Int) - 2) = (s.size : Int) - 2 := IntWalk.i64_in _ (by omega)
  clear hT
  go_enter Tryd.func48, Tryd.ntmps48
  go_wp2_with fail
  repeat (first
    | (with_reducible refine c1.calls0 HT.out ?_; intro wz hz; replace HT := Lib.hid (Kp.keep HT.out hz); replace HS := Lib.hid (HS.out.step hz); clear hz; try go_wp2_with fail)
    | (with_reducible refine c2.calls0 ?_; intro wz hz; replace HT := Lib.hid (Kp.keep HT.out hz); replace HS := Lib.hid (HS.out.step hz); clear hz; try go_wp2_with fail)
    | (with_reducible refine c3.calls0 HT.out ?_; intro wz hz; replace HT := Lib.hid (Kp.keep HT.out hz); replace HS := Lib.hid (HS.out.step hz); clear hz; try go_wp2_with fail))
  refine bodyPost_ret (results_tmp4 rfl _ _ _) rfl ?_
  exact ⟨rfl, HS.out⟩
set_option maxRecDepth 100000 in
theorem take_err (l s h key pads : ByteArray) (t b k : Int) (n m : Nat) (hs : 2 ≤ s.size) (hm : s.size ≤ 1000) (ht : ((s.size : Int) != t) = false) (hh : s.extract 0 2 = h) (hb : 0 ≤ b ∧ b ≤ 65535) (h8 : (b % 8 != 0) = false) (hn : b / 8 = (n : Int)) (hn9 : n ≤ 10000) (hl : decide ((s.size : Int) - 2 < (n : Int)) = false) (hmn : m = n + 2) (hms : m ≤ s.size) (hk : s.extract 2 m = key) (hp : s.extract m s.size = pads) (c1 : KMk Tab2 50 #[.string l] (.int .i64 t)) (c2 : Mak 74 #[.string h] (.tuple #[.int .u64 b, .bool true])) (c3 : KMk Tab2 29 #[.string l, .int .i64 (n : Int)] (.tuple #[.int .i64 k, .bool true])) (E : Int) (hE : (E != 0) = true) (c4 : KMk Tab2 43 #[.int .i64 k, .string key] (.int .i64 E)) : KMk Tab2 48 #[.string l, .string s] (no4 E) := by
  intro w hT
  have HS := Lib.hid (Since.refl w)
  have HT := Lib.hid hT
  have b1 := some_bytes s (by omega)
  have b2 := some_bytes_f s (by omega)
  have i1 : (2 : Int) ≤ (s.size : Int) := by omega
  have e0 : IntKind.i64.wrap (n : Int) = (n : Int) := IntWalk.i64_in _ (by omega)
  have e2 : IntKind.u64.wrap (n : Int) = (n : Int) := IntWalk.u64_in _ (by omega)
  have e4 : IntKind.i64.wrap ((s.size : Int) - 2) = (s.size : Int) - 2 := IntWalk.i64_in _ (by omega)
  have e5 : IntKind.i64.wrap (2 + (n : Int)) = (m : Int) := by rw [IntWalk.i64_in _ (by omega)]; omega
  have i2 : (2 : Int) ≤ (m : Int) := by omega
  have i3 : (m : Int) ≤ (s.size : Int) := by omega
  have i4 : (0 : Int) ≤ (m : Int) := by omega
  clear hT hmn hms
  go_enter Tryd.func48, Tryd.ntmps48
  go_wp2_with fail
  repeat (first
    | (with_reducible refine c1.calls0 HT.out ?_; intro wz hz; replace HT := Lib.hid (Kp.keep HT.out hz); replace HS := Lib.hid (HS.out.step hz); clear hz; try go_wp2_with fail)
    | (with_reducible refine c2.calls0 ?_; intro wz hz; replace HT := Lib.hid (Kp.keep HT.out hz); replace HS := Lib.hid (HS.out.step hz); clear hz; try go_wp2_with fail)
    | (with_reducible refine c3.calls0 HT.out ?_; intro wz hz; replace HT := Lib.hid (Kp.keep HT.out hz); replace HS := Lib.hid (HS.out.step hz); clear hz; try go_wp2_with fail))
  go_quiet (fail)
  go_wp2_with fail
  have hdr : Since wz (wz.drewN nq) := ⟨rfl, rfl, rfl, Nat.le_refl _, fun _ _ => rfl⟩
  refine c4.calls0 (w := wz.drewN nq) (Kp.keep HT.out hdr) ?_
  intro w5 h5
  have HS5 := Lib.hid (Since.step (Since.step HS.out hdr) h5)
  clear h5
  go_wp2_with fail
  refine bodyPost_ret (results_tmp4 rfl _ _ _) rfl ?_
  exact ⟨rfl, HS5.out⟩
set_option maxRecDepth 100000 in
theorem take_ok (l s h key pads : ByteArray) (t b k : Int) (n m : Nat) (hs : 2 ≤ s.size) (hm : s.size ≤ 1000) (ht : ((s.size : Int) != t) = false) (hh : s.extract 0 2 = h) (hb : 0 ≤ b ∧ b ≤ 65535) (h8 : (b % 8 != 0) = false) (hn : b / 8 = (n : Int)) (hn9 : n ≤ 10000) (hl : decide ((s.size : Int) - 2 < (n : Int)) = false) (hmn : m = n + 2) (hms : m ≤ s.size) (hk : s.extract 2 m = key) (hp : s.extract m s.size = pads) (c1 : KMk Tab2 50 #[.string l] (.int .i64 t)) (c2 : Mak 74 #[.string h] (.tuple #[.int .u64 b, .bool true])) (c3 : KMk Tab2 29 #[.string l, .int .i64 (n : Int)] (.tuple #[.int .i64 k, .bool true])) (c4 : KMk Tab2 43 #[.int .i64 k, .string key] (.int .i64 0)) : KMk Tab2 48 #[.string l, .string s] (.tuple #[.int .i64 k, .string key, .string pads, .int .i64 0]) := by
  intro w hT
  have HS := Lib.hid (Since.refl w)
  have HT := Lib.hid hT
  have b1 := some_bytes s (by omega)
  have b2 := some_bytes_f s (by omega)
  have i1 : (2 : Int) ≤ (s.size : Int) := by omega
  have e0 : IntKind.i64.wrap (n : Int) = (n : Int) := IntWalk.i64_in _ (by omega)
  have e2 : IntKind.u64.wrap (n : Int) = (n : Int) := IntWalk.u64_in _ (by omega)
  have e4 : IntKind.i64.wrap ((s.size : Int) - 2) = (s.size : Int) - 2 := IntWalk.i64_in _ (by omega)
  have e5 : IntKind.i64.wrap (2 + (n : Int)) = (m : Int) := by rw [IntWalk.i64_in _ (by omega)]; omega
  have i2 : (2 : Int) ≤ (m : Int) := by omega
  have i3 : (m : Int) ≤ (s.size : Int) := by omega
  have i4 : (0 : Int) ≤ (m : Int) := by omega
  clear hT hmn hms
  go_enter Tryd.func48, Tryd.ntmps48
  go_wp2_with fail
  repeat (first
    | (with_reducible refine c1.calls0 HT.out ?_; intro wz hz; replace HT := Lib.hid (Kp.keep HT.out hz); replace HS := Lib.hid (HS.out.step hz); clear hz; try go_wp2_with fail)
    | (with_reducible refine c2.calls0 ?_; intro wz hz; replace HT := Lib.hid (Kp.keep HT.out hz); replace HS := Lib.hid (HS.out.step hz); clear hz; try go_wp2_with fail)
    | (with_reducible refine c3.calls0 HT.out ?_; intro wz hz; replace HT := Lib.hid (Kp.keep HT.out hz); replace HS := Lib.hid (HS.out.step hz); clear hz; try go_wp2_with fail))
  go_quiet (fail)
  go_wp2_with fail
  have hdr : Since wz (wz.drewN nq) := ⟨rfl, rfl, rfl, Nat.le_refl _, fun _ _ => rfl⟩
  refine c4.calls0 (w := wz.drewN nq) (Kp.keep HT.out hdr) ?_
  intro w5 h5
  have HS5 := Lib.hid (Since.step (Since.step HS.out hdr) h5)
  clear h5
  go_wp2_with fail
  refine bodyPost_ret (results_tmp4 rfl _ _ _) rfl ?_
  exact ⟨rfl, HS5.out⟩
end Load
end Go.Proofs.YtpakifiphdlkoaaDoor

/- Package load: the reference's Take. -/
namespace Go.Proofs.YtpakifiphdlkoaaDoor
open Go.RowKit
namespace Load
open Kind (Tab2)
open Kind
set_option maxRecDepth 100000 in
theorem rtake_none (l s : ByteArray) (c1 : Ret 51 #[.string l] (.int .i64 0)) : Mak 49 #[.string l, .string s] (no4 5) := by
  intro w
  have HS := Lib.hid (Since.refl w)
  go_enter Tryd.func49, Tryd.ntmps49
  go_wp2_with fail
  repeat (first
    | (with_reducible refine c1.calls ?_; try go_wp2_with fail))
  refine bodyPost_ret (results_tmp4 rfl _ _ _) rfl ?_
  exact ⟨rfl, HS.out⟩
set_option maxRecDepth 100000 in
theorem rtake_len (l s : ByteArray) (t : Int) (h0 : (t == 0) = false) (ht : ((s.size : Int) != t) = true) (c1 : Ret 51 #[.string l] (.int .i64 t)) : Mak 49 #[.string l, .string s] (no4 5) := by
  intro w
  have HS := Lib.hid (Since.refl w)
  go_enter Tryd.func49, Tryd.ntmps49
  go_wp2_with fail
  repeat (first
    | (with_reducible refine c1.calls ?_; try go_wp2_with fail))
  refine bodyPost_ret (results_tmp4 rfl _ _ _) rfl ?_
  exact ⟨rfl, HS.out⟩
theorem Since_drewN {W0 w : World} (h : Since W0 w) (q : Nat) : Since W0 (w.drewN q) := Since.step h ⟨rfl, rfl, rfl, Nat.le_refl _, fun _ _ => rfl⟩
set_option maxRecDepth 100000 in
theorem rtake_bits (l s : ByteArray) (t b : Int) (n : Nat) (hs : 2 ≤ s.size) (hm : s.size ≤ 1000) (h0 : (t == 0) = false) (ht : ((s.size : Int) != t) = false) (hb : (256 : Int) * (s[0].toNat : Int) + (s[1].toNat : Int) = b) (hb9 : 0 ≤ b ∧ b ≤ 65535) (_hn : b / 8 = (n : Int)) (hn9 : n ≤ 10000) (h8 : (b % 8 != 0) = true) (c1 : Ret 51 #[.string l] (.int .i64 t)) : Mak 49 #[.string l, .string s] (no4 5) := by
  intro w
  have HS := Lib.hid (Since.refl w)
  have h2 : 1 < s.size := by omega
  have h1 : 0 < s.size := by omega
  have i0 : (0 : Int) < (s.size : Int) := by omega
  have i1 : (1 : Int) < (s.size : Int) := by omega
  have x0 := s[0].toNat_lt
  have x1 := s[1].toNat_lt
  have e1 : IntKind.i64.wrap ((256 : Int) * (s[0].toNat : Int)) = (256 : Int) * (s[0].toNat : Int) := IntWalk.i64_in _ (by omega)
  have e2 : IntKind.i64.wrap ((256 : Int) * (s[0].toNat : Int) + (s[1].toNat : Int)) = b := by rw [IntWalk.i64_in _ (by omega)]; exact hb
  have e0 : IntKind.i64.wrap (s[0].toNat : Int) = (s[0].toNat : Int) := IntWalk.i64_in _ (by omega)
  have e9 : IntKind.i64.wrap (s[1].toNat : Int) = (s[1].toNat : Int) := IntWalk.i64_in _ (by omega)
  clear hb
  have e4 : IntKind.i64.wrap ((s.size : Int) - 2) = (s.size : Int) - 2 := IntWalk.i64_in _ (by omega)
  have e7 : IntKind.i64.wrap (n : Int) = (n : Int) := IntWalk.i64_in _ (by omega)
  go_enter Tryd.func49, Tryd.ntmps49
  go_wp2_with fail
  repeat (first
    | (with_reducible refine c1.calls ?_; try go_wp2_with fail))
  go_quiet (fail)
  go_wp2_with fail
  refine bodyPost_ret (results_tmp4 rfl _ _ _) rfl ?_
  exact ⟨rfl, Since_drewN HS.out _⟩
set_option maxRecDepth 100000 in
theorem rtake_long (l s : ByteArray) (t b : Int) (n : Nat) (hs : 2 ≤ s.size) (hm : s.size ≤ 1000) (h0 : (t == 0) = false) (ht : ((s.size : Int) != t) = false) (hb : (256 : Int) * (s[0].toNat : Int) + (s[1].toNat : Int) = b) (hb9 : 0 ≤ b ∧ b ≤ 65535) (hn : b / 8 = (n : Int)) (hn9 : n ≤ 10000) (h8 : (b % 8 != 0) = false) (hl : decide ((s.size : Int) - 2 < (n : Int)) = true) (c1 : Ret 51 #[.string l] (.int .i64 t)) : Mak 49 #[.string l, .string s] (no4 5) := by
  intro w
  have HS := Lib.hid (Since.refl w)
  have h2 : 1 < s.size := by omega
  have h1 : 0 < s.size := by omega
  have i0 : (0 : Int) < (s.size : Int) := by omega
  have i1 : (1 : Int) < (s.size : Int) := by omega
  have x0 := s[0].toNat_lt
  have x1 := s[1].toNat_lt
  have e1 : IntKind.i64.wrap ((256 : Int) * (s[0].toNat : Int)) = (256 : Int) * (s[0].toNat : Int) := IntWalk.i64_in _ (by omega)
  have e2 : IntKind.i64.wrap ((256 : Int) * (s[0].toNat : Int) + (s[1].toNat : Int)) = b := by rw [IntWalk.i64_in _ (by omega)]; exact hb
  have e0 : IntKind.i64.wrap (s[0].toNat : Int) = (s[0].toNat : Int) := IntWalk.i64_in _ (by omega)
  have e9 : IntKind.i64.wrap (s[1].toNat : Int) = (s[1].toNat : Int) := IntWalk.i64_in _ (by omega)
  clear hb
  have e4 : IntKind.i64.wrap ((s.size : Int) - 2) = (s.size : Int) - 2 := IntWalk.i64_in _ (by omega)
  have e7 : IntKind.i64.wrap (n : Int) = (n : Int) := IntWalk.i64_in _ (by omega)
  go_enter Tryd.func49, Tryd.ntmps49
  go_wp2_with fail
  repeat (first
    | (with_reducible refine c1.calls ?_; try go_wp2_with fail))
  go_quiet (fail)
  go_wp2_with fail
  refine bodyPost_ret (results_tmp4 rfl _ _ _) rfl ?_
  exact ⟨rfl, Since_drewN HS.out _⟩
set_option maxRecDepth 100000 in
theorem rtake_kind (l s : ByteArray) (t b : Int) (n : Nat) (hs : 2 ≤ s.size) (hm : s.size ≤ 1000) (h0 : (t == 0) = false) (ht : ((s.size : Int) != t) = false) (hb : (256 : Int) * (s[0].toNat : Int) + (s[1].toNat : Int) = b) (hb9 : 0 ≤ b ∧ b ≤ 65535) (hn : b / 8 = (n : Int)) (hn9 : n ≤ 10000) (h8 : (b % 8 != 0) = false) (hl : decide ((s.size : Int) - 2 < (n : Int)) = false) (c2 : Ret 30 #[.string l, .int .i64 (n : Int)] (.tuple #[.int .i64 0, .bool false])) (c1 : Ret 51 #[.string l] (.int .i64 t)) : Mak 49 #[.string l, .string s] (no4 8) := by
  intro w
  have HS := Lib.hid (Since.refl w)
  have h2 : 1 < s.size := by omega
  have h1 : 0 < s.size := by omega
  have i0 : (0 : Int) < (s.size : Int) := by omega
  have i1 : (1 : Int) < (s.size : Int) := by omega
  have x0 := s[0].toNat_lt
  have x1 := s[1].toNat_lt
  have e1 : IntKind.i64.wrap ((256 : Int) * (s[0].toNat : Int)) = (256 : Int) * (s[0].toNat : Int) := IntWalk.i64_in _ (by omega)
  have e2 : IntKind.i64.wrap ((256 : Int) * (s[0].toNat : Int) + (s[1].toNat : Int)) = b := by rw [IntWalk.i64_in _ (by omega)]; exact hb
  have e0 : IntKind.i64.wrap (s[0].toNat : Int) = (s[0].toNat : Int) := IntWalk.i64_in _ (by omega)
  have e9 : IntKind.i64.wrap (s[1].toNat : Int) = (s[1].toNat : Int) := IntWalk.i64_in _ (by omega)
  clear hb
  have e4 : IntKind.i64.wrap ((s.size : Int) - 2) = (s.size : Int) - 2 := IntWalk.i64_in _ (by omega)
  have e7 : IntKind.i64.wrap (n : Int) = (n : Int) := IntWalk.i64_in _ (by omega)
  go_enter Tryd.func49, Tryd.ntmps49
  go_wp2_with fail
  repeat (first
    | (with_reducible refine c1.calls ?_; try go_wp2_with fail))
  go_quiet (fail)
  go_wp2_with fail
  replace HS := Lib.hid (Since_drewN HS.out nq)
  repeat (first
    | (with_reducible refine c2.calls ?_; try go_wp2_with fail))
  refine bodyPost_ret (results_tmp4 rfl _ _ _) rfl ?_
  exact ⟨rfl, HS.out⟩
set_option maxRecDepth 100000 in
theorem rtake_err (l s key pads : ByteArray) (t b k : Int) (n m : Nat) (hs : 2 ≤ s.size) (hm : s.size ≤ 1000) (h0 : (t == 0) = false) (ht : ((s.size : Int) != t) = false) (hb : (256 : Int) * (s[0].toNat : Int) + (s[1].toNat : Int) = b) (hb9 : 0 ≤ b ∧ b ≤ 65535) (hn : b / 8 = (n : Int)) (hn9 : n ≤ 10000) (h8 : (b % 8 != 0) = false) (hl : decide ((s.size : Int) - 2 < (n : Int)) = false) (hmn : m = n + 2) (hms : m ≤ s.size) (hk : s.extract 2 m = key) (_hp : s.extract m s.size = pads)
    (c1 : Ret 51 #[.string l] (.int .i64 t)) (c2 : Ret 30 #[.string l, .int .i64 (n : Int)] (.tuple #[.int .i64 k, .bool true])) (E : Int) (hE : (E != 0) = true) (c3 : Mak 44 #[.int .i64 k, .string key] (.int .i64 E)) : Mak 49 #[.string l, .string s] (no4 E) := by
  intro w
  have HS := Lib.hid (Since.refl w)
  have h2 : 1 < s.size := by omega
  have h1 : 0 < s.size := by omega
  have i0 : (0 : Int) < (s.size : Int) := by omega
  have i1 : (1 : Int) < (s.size : Int) := by omega
  have x0 := s[0].toNat_lt
  have x1 := s[1].toNat_lt
  have e1 : IntKind.i64.wrap ((256 : Int) * (s[0].toNat : Int)) = (256 : Int) * (s[0].toNat : Int) := IntWalk.i64_in _ (by omega)
  have e2 : IntKind.i64.wrap ((256 : Int) * (s[0].toNat : Int) + (s[1].toNat : Int)) = b := by rw [IntWalk.i64_in _ (by omega)]; exact hb
  have e0 : IntKind.i64.wrap (s[0].toNat : Int) = (s[0].toNat : Int) := IntWalk.i64_in _ (by omega)
  have e9 : IntKind.i64.wrap (s[1].toNat : Int) = (s[1].toNat : Int) := IntWalk.i64_in _ (by omega)
  clear hb
  have e4 : IntKind.i64.wrap ((s.size : Int) - 2) = (s.size : Int) - 2 := IntWalk.i64_in _ (by omega)
  have e7 : IntKind.i64.wrap (n : Int) = (n : Int) := IntWalk.i64_in _ (by omega)
  have e5 : IntKind.i64.wrap (2 + (n : Int)) = (m : Int) := by rw [IntWalk.i64_in _ (by omega)]; omega
  have i2 : (2 : Int) ≤ (m : Int) := by omega
  have i3 : (m : Int) ≤ (s.size : Int) := by omega
  have i4 : (0 : Int) ≤ (m : Int) := by omega
  clear hmn hms
  go_enter Tryd.func49, Tryd.ntmps49
  go_wp2_with fail
  repeat (first
    | (with_reducible refine c1.calls ?_; try go_wp2_with fail))
  go_quiet (fail)
  go_wp2_with fail
  replace HS := Lib.hid (Since_drewN HS.out nq)
  repeat (first
    | (with_reducible refine c2.calls ?_; try go_wp2_with fail)
    | (with_reducible refine c3.calls HS.out ?_; intro wz hz; replace HS := Lib.hid hz; clear hz; try go_wp2_with fail))
  refine bodyPost_ret (results_tmp4 rfl _ _ _) rfl ?_
  exact ⟨rfl, HS.out⟩
set_option maxRecDepth 100000 in
theorem rtake_ok (l s key pads : ByteArray) (t b k : Int) (n m : Nat) (hs : 2 ≤ s.size) (hm : s.size ≤ 1000) (h0 : (t == 0) = false) (ht : ((s.size : Int) != t) = false) (hb : (256 : Int) * (s[0].toNat : Int) + (s[1].toNat : Int) = b) (hb9 : 0 ≤ b ∧ b ≤ 65535) (hn : b / 8 = (n : Int)) (hn9 : n ≤ 10000) (h8 : (b % 8 != 0) = false) (hl : decide ((s.size : Int) - 2 < (n : Int)) = false) (hmn : m = n + 2) (hms : m ≤ s.size) (hk : s.extract 2 m = key) (hp : s.extract m s.size = pads)
    (c1 : Ret 51 #[.string l] (.int .i64 t)) (c2 : Ret 30 #[.string l, .int .i64 (n : Int)] (.tuple #[.int .i64 k, .bool true])) (c3 : Mak 44 #[.int .i64 k, .string key] (.int .i64 0)) : Mak 49 #[.string l, .string s] (.tuple #[.int .i64 k, .string key, .string pads, .int .i64 0]) := by
  intro w
  have HS := Lib.hid (Since.refl w)
  have h2 : 1 < s.size := by omega
  have h1 : 0 < s.size := by omega
  have i0 : (0 : Int) < (s.size : Int) := by omega
  have i1 : (1 : Int) < (s.size : Int) := by omega
  have x0 := s[0].toNat_lt
  have x1 := s[1].toNat_lt
  have e1 : IntKind.i64.wrap ((256 : Int) * (s[0].toNat : Int)) = (256 : Int) * (s[0].toNat : Int) := IntWalk.i64_in _ (by omega)
  have e2 : IntKind.i64.wrap ((256 : Int) * (s[0].toNat : Int) + (s[1].toNat : Int)) = b := by rw [IntWalk.i64_in _ (by omega)]; exact hb
  have e0 : IntKind.i64.wrap (s[0].toNat : Int) = (s[0].toNat : Int) := IntWalk.i64_in _ (by omega)
  have e9 : IntKind.i64.wrap (s[1].toNat : Int) = (s[1].toNat : Int) := IntWalk.i64_in _ (by omega)
  clear hb
  have e4 : IntKind.i64.wrap ((s.size : Int) - 2) = (s.size : Int) - 2 := IntWalk.i64_in _ (by omega)
  have e7 : IntKind.i64.wrap (n : Int) = (n : Int) := IntWalk.i64_in _ (by omega)
  have e5 : IntKind.i64.wrap (2 + (n : Int)) = (m : Int) := by rw [IntWalk.i64_in _ (by omega)]; omega
  have i2 : (2 : Int) ≤ (m : Int) := by omega
  have i3 : (m : Int) ≤ (s.size : Int) := by omega
  have i4 : (0 : Int) ≤ (m : Int) := by omega
  clear hmn hms
  go_enter Tryd.func49, Tryd.ntmps49
  go_wp2_with fail
  repeat (first
    | (with_reducible refine c1.calls ?_; try go_wp2_with fail))
  go_quiet (fail)
  go_wp2_with fail
  replace HS := Lib.hid (Since_drewN HS.out nq)
  repeat (first
    | (with_reducible refine c2.calls ?_; try go_wp2_with fail)
    | (with_reducible refine c3.calls HS.out ?_; intro wz hz; replace HS := Lib.hid hz; clear hz; try go_wp2_with fail))
  go_quiet (fail)
  go_wp2_with fail
  refine bodyPost_ret (results_tmp4 rfl _ _ _) rfl ?_
  exact ⟨rfl, Since_drewN HS.out _⟩
end Load
end Go.Proofs.YtpakifiphdlkoaaDoor

/- Package load: what Make and Take of both sides answer. -/
namespace Go.Proofs.YtpakifiphdlkoaaDoor
open Go.RowKit
namespace Load
open Kind (Tab2)
open Kind
/-- the number of bits, in two bytes -/
def PL (n : Int) : ByteArray := bs (RefOct.low n 2)
def PLD (key pads : ByteArray) : ByteArray := bs (RefOct.low (8 * (key.size : Int)) 2 ++ key.data.toList ++ pads.data.toList)
theorem PL_size (n : Int) : (PL n).size = 2 := by unfold PL; rw [size_bs, RefOct.low_len]
theorem put2 (n : Int) (h0 : 0 ≤ n) (h1 : n ≤ 100000) : Mak 72 #[.int .u64 n, .int .i64 2] (.string (PL n)) := fun w => by
  have h := Oct.put_mid n 2 w (by omega) (by omega) (by decide) (by decide)
  rw [RefOct.put_same n 2 (by decide)] at h
  exact h
theorem rput2 (n : Int) (h0 : 0 ≤ n) (h1 : n ≤ 100000) : Mak 73 #[.int .u64 n, .int .i64 2] (.string (PL n)) := fun w => by
  have h := RefOct.put_mid n 2 w (by omega) (by omega) (by decide) (by decide)
  exact h
/-- what Make answers -/
def makeV (no : Int) (key pads : ByteArray) (X : ByteArray) (E : Int) : Prop :=
  (E = 0 ∧ chkE (rowOf no) key.data.toList = 0 ∧ (pads.size : Int) = padsI (rowOf no) ∧ X = PLD key pads) ∨ ((E != 0) = true ∧ X = ⟨#[]⟩)
theorem pld_cat (key pads : ByteArray) : PLD key pads = bs (Oct.cat [PL (8 * (key.size : Int)), key, pads]) := by
  unfold PLD Oct.cat PL; congr 1; simp [list_bs]
theorem pld_app (key pads : ByteArray) : PL (8 * (key.size : Int)) ++ key ++ pads = PLD key pads := by
  apply ba_ext; unfold PLD PL; rw [app_list, app_list, list_bs, list_bs]
theorem pld_size (key pads : ByteArray) : (PLD key pads).size = 2 + key.size + pads.size := by
  unfold PLD; rw [size_bs, List.length_append, List.length_append, RefOct.low_len]; rfl
theorem make_yes (no : Int) (key pads : ByteArray) (hk : key.size ≤ 300) (hp : pads.size ≤ 300) (h0 : chkE (rowOf no) key.data.toList = 0) (h1 : (pads.size : Int) = padsI (rowOf no)) :
    KMk Tab2 46 #[.int .i64 no, .string key, .string pads] (.tuple #[.string (PLD key pads), .int .i64 0]) ∧ Mak 47 #[.int .i64 no, .string key, .string pads] (.tuple #[.string (PLD key pads), .int .i64 0]) := by
  have hz := pld_size key pads
  have c1 := check_k no key (by omega) _ rfl
  have r1 := rcheck_mak no key (by omega) _ rfl
  have c2 := pads_k no _ rfl
  have r2 := rpads_ret no _ rfl
  rw [h0] at c1 r1
  rw [← h1] at c2 r2
  exact ⟨make_ok no key pads (PL (8 * (key.size : Int))) (PLD key pads) (by omega) (pld_cat key pads) (by omega) c1 c2 (put2 _ (by omega) (by omega)),
    rmake_ok no key pads (PL (8 * (key.size : Int))) (PL (8 * (key.size : Int)) ++ key) (PLD key pads) (by omega) (by omega) (by rw [PL_size]; decide) rfl (by rw [ByteArray.size_append, PL_size]; omega) (pld_app key pads) r1 r2 (rput2 _ (by omega) (by omega))⟩
theorem make_both (no : Int) (key pads : ByteArray) (hk : key.size ≤ 300) (hp : pads.size ≤ 300) :
    ∃ X E, KMk Tab2 46 #[.int .i64 no, .string key, .string pads] (.tuple #[.string X, .int .i64 E]) ∧ Mak 47 #[.int .i64 no, .string key, .string pads] (.tuple #[.string X, .int .i64 E]) ∧ makeV no key pads X E := by
  have c1 := check_k no key (by omega) _ rfl
  have r1 := rcheck_mak no key (by omega) _ rfl
  have c2 := pads_k no _ rfl
  have r2 := rpads_ret no _ rfl
  by_cases h0 : chkE (rowOf no) key.data.toList = 0
  · by_cases h1 : (pads.size : Int) = padsI (rowOf no)
    · obtain ⟨a, b⟩ := make_yes no key pads hk hp h0 h1
      exact ⟨_, _, a, b, Or.inl ⟨rfl, h0, h1, rfl⟩⟩
    · rw [h0] at c1 r1
      exact ⟨_, _, make_pad no _ key pads (bne_iff_ne.2 h1) c1 c2, rmake_pad no _ key pads (bne_iff_ne.2 h1) r1 r2, Or.inr ⟨rfl, rfl⟩⟩
  · exact ⟨_, _, make_err no _ key pads (bne_iff_ne.2 h0) c1, rmake_err no _ key pads (bne_iff_ne.2 h0) r1, Or.inr ⟨bne_iff_ne.2 h0, rfl⟩⟩
theorem fnd_row (p : Row → Bool) : ∀ (l : List Row) (i : Nat) (k : Int), l = rows.drop i → fndL p l i = (k, true) → p (rowOf k) = true := by
  intro l
  induction l with
  | nil => intro i k _ h; cases h
  | cons r l ih =>
    intro i k hl h
    have hr : rows[i]? = some r := by
      have := congrArg (fun l => l[0]?) hl
      simpa using this.symm
    have hl2 : l = rows.drop (i + 1) := by
      have := congrArg List.tail hl
      simpa using this
    unfold fndL at h
    split at h
    · rename_i hp
      obtain ⟨rfl, -⟩ := Prod.mk.inj h
      rw [rowOf_at i r hr]; exact hp
    · exact ih _ _ hl2 h
theorem fnd_none (p : Row → Bool) : ∀ (l : List Row) (i : Nat) (k : Int), fndL p l i = (k, false) → k = 0 := by
  intro l
  induction l with
  | nil => intro i k h; exact (Prod.mk.inj h).1.symm
  | cons r l ih =>
    intro i k h
    unfold fndL at h
    split at h
    · cases h
    · exact ih _ _ h
theorem two (s : ByteArray) (hs : 2 ≤ s.size) : ∃ a c r, s.data.toList = a :: c :: r ∧ s[0] = a ∧ s[1] = c := by
  have hl : s.data.toList.length = s.size := rfl
  match h : s.data.toList with
  | [] => rw [h] at hl; simp at hl; omega
  | [x] => rw [h] at hl; simp at hl; omega
  | a :: c :: r =>
    refine ⟨a, c, r, rfl, ?_, ?_⟩
    · have := Oct.getD_at s 0 (by omega); rw [h] at this; exact this.symm
    · have := Oct.getD_at s 1 (by omega); rw [h] at this; exact this.symm
theorem low2 (a c : UInt8) (b : Int) (hb : (256 : Int) * (a.toNat : Int) + (c.toNat : Int) = b) : RefOct.low b 2 = [a, c] := by
  have ha := a.toNat_lt
  have hc := c.toNat_lt
  have e1 : (b / 2 ^ (8 * 1) % 256).toNat = a.toNat := by omega
  have e2 : (b / 2 ^ (8 * 0) % 256).toNat = c.toNat := by omega
  show [UInt8.ofNat (b / 2 ^ (8 * 1) % 256).toNat, UInt8.ofNat (b / 2 ^ (8 * 0) % 256).toNat] = [a, c]
  rw [e1, e2]; simp
/-- what Take answers -/
def takeV (_l s : ByteArray) (k : Int) (x p : ByteArray) (E : Int) : Prop :=
  (E = 0 ∧ chkE (rowOf k) x.data.toList = 0 ∧ (p.size : Int) = padsI (rowOf k) ∧ s = PLD x p ∧ x.size ≤ s.size ∧ p.size ≤ s.size) ∨ ((E != 0) = true ∧ k = 0 ∧ x = ⟨#[]⟩ ∧ p = ⟨#[]⟩)
theorem tot_least (m : Int) (h : tot m ≠ 0) : 32 ≤ tot m := by
  unfold tot at *
  split
  · rename_i h1; rw [if_pos h1] at h; exact absurd rfl h
  · split
    · decide
    · split <;> decide
theorem take_both (l s : ByteArray) (hs : s.size ≤ 300) :
    ∃ k x p E, KMk Tab2 48 #[.string l, .string s] (.tuple #[.int .i64 k, .string x, .string p, .int .i64 E]) ∧ Mak 49 #[.string l, .string s] (.tuple #[.int .i64 k, .string x, .string p, .int .i64 E]) ∧ takeV l s k x p E := by
  have c1 := total_k l _ rfl
  have r1 := rtotal_ret l _ rfl
  have hno : takeV l s 0 ⟨#[]⟩ ⟨#[]⟩ 5 := Or.inr ⟨rfl, rfl, rfl, rfl⟩
  by_cases h1 : (s.size : Int) = tot (mostN l.data.toList)
  · by_cases h2 : tot (mostN l.data.toList) = 0
    · obtain rfl : s = ⟨#[]⟩ := by apply ba_ext; have : s.data.toList.length = 0 := by show s.size = 0; omega
                                   exact List.length_eq_zero_iff.1 this
      rw [h2] at r1
      exact ⟨_, _, _, _, (take_none l).k, rtake_none l _ r1, hno⟩
    · have h3 := tot_least _ h2
      have hs2 : 2 ≤ s.size := by omega
      obtain ⟨a, c, r, hl, e0, e1⟩ := two s hs2
      have ha := a.toNat_lt
      have hc := c.toNat_lt
      obtain ⟨b, hb⟩ : ∃ b, (256 : Int) * (a.toNat : Int) + (c.toNat : Int) = b := ⟨_, rfl⟩
      have hb9 : 0 ≤ b ∧ b ≤ 65535 := by omega
      have hb0 : (256 : Int) * (s[0].toNat : Int) + (s[1].toNat : Int) = b := by rw [e0, e1]; exact hb
      have hx2 : (s.extract 0 2).data.toList = [a, c] := by rw [ext_list, hl]; rfl
      have cg : Mak 74 #[.string (s.extract 0 2)] (.tuple #[.int .u64 b, .bool true]) := by
        have hz : (s.extract 0 2).size = 2 := by show (s.extract 0 2).data.toList.length = 2; rw [hx2]; rfl
        have h : Ret 74 #[.string (s.extract 0 2)] (.tuple #[.int .u64 (Oct.numN (s.extract 0 2).data.toList : Nat), .bool true]) := fun w => Oct.get_in (s.extract 0 2) w (by omega) (by omega)
        rw [hx2] at h
        have e : ((Oct.numN [a, c] : Nat) : Int) = b := by show (((0 * 256 + a.toNat) * 256 + c.toNat : Nat) : Int) = b; omega
        rw [e] at h
        exact h.mak
      have ht : ((s.size : Int) != tot (mostN l.data.toList)) = false := bne_eq_false_iff_eq.2 h1
      have h0 : (tot (mostN l.data.toList) == 0) = false := beq_eq_false_iff_ne.2 h2
      by_cases h8 : b % 8 = 0
      · obtain ⟨n, hn⟩ : ∃ n : Nat, b / 8 = (n : Int) := ⟨(b / 8).toNat, by omega⟩
        have h8f : (b % 8 != 0) = false := bne_eq_false_iff_eq.2 h8
        by_cases hlg : (s.size : Int) - 2 < (n : Int)
        · exact ⟨_, _, _, _, take_long l s _ _ b n hs2 (by omega) ht rfl hb9 h8f hn (by omega) (decide_eq_true hlg) c1 cg,
            rtake_long l s _ b n hs2 (by omega) h0 ht hb0 hb9 hn (by omega) h8f (decide_eq_true hlg) r1, hno⟩
        · have hlf := decide_eq_false hlg
          obtain ⟨⟨k, q⟩, hkq⟩ : ∃ kq, fndL (wants l.data.toList (n : Int)) rows 0 = kq := ⟨_, rfl⟩
          have c3 := KMk.t2 (of_k l n k q hkq)
          have r3 := rof_ret l n k q hkq
          cases q with
          | false =>
            obtain rfl := fnd_none _ _ _ _ hkq
            exact ⟨_, _, _, _, take_kind l s _ _ b n hs2 (by omega) ht rfl hb9 h8f hn (by omega) hlf c1 cg c3,
              rtake_kind l s _ b n hs2 (by omega) h0 ht hb0 hb9 hn (by omega) h8f hlf r3 r1, Or.inr ⟨rfl, rfl, rfl, rfl⟩⟩
          | true =>
            have hw := fnd_row _ rows 0 k rfl hkq
            unfold wants at hw
            rw [Bool.and_eq_true, beq_iff_eq, beq_iff_eq] at hw
            obtain ⟨m, hm⟩ : ∃ m, m = n + 2 := ⟨_, rfl⟩
            have hms : m ≤ s.size := by omega
            obtain ⟨key, hkey⟩ : ∃ key, s.extract 2 m = key := ⟨_, rfl⟩
            obtain ⟨pads, hpads⟩ : ∃ pads, s.extract m s.size = pads := ⟨_, rfl⟩
            have hkl : key.data.toList = (s.data.toList.drop 2).take n := by rw [← hkey, ext_list]; congr 1; omega
            have hpl : pads.data.toList = s.data.toList.drop m := by
              rw [← hpads, ext_list, List.take_of_length_le]
              rw [List.length_drop]; exact Nat.le_refl _
            have hlen : s.data.toList.length = s.size := rfl
            have hks : key.size = n := by show key.data.toList.length = n; rw [hkl, List.length_take, List.length_drop]; omega
            have hps : pads.size = s.size - m := by show pads.data.toList.length = _; rw [hpl, List.length_drop]; omega
            have c4 := check_k k key (by omega) _ rfl
            have r4 := rcheck_mak k key (by omega) _ rfl
            by_cases hE : chkE (rowOf k) key.data.toList = 0
            · rw [hE] at c4 r4
              refine ⟨_, _, _, _, take_ok l s _ key pads _ b k n m hs2 (by omega) ht rfl hb9 h8f hn (by omega) hlf hm hms hkey hpads c1 cg c3 c4,
                rtake_ok l s key pads _ b k n m hs2 (by omega) h0 ht hb0 hb9 hn (by omega) h8f hlf hm hms hkey hpads r1 r3 r4, Or.inl ⟨rfl, hE, ?_, ?_, by omega, by omega⟩⟩
              · unfold padsI
                rw [hw.1, hw.2]
                have hn0 : (n : Int) ≠ 0 := by
                  intro h
                  unfold chkE at hE
                  rw [hw.2, if_pos h] at hE
                  cases hE
                rw [if_neg hn0]
                omega
              · apply ba_ext
                unfold PLD
                rw [list_bs, hkl, hpl, hks, show 8 * (n : Int) = b by omega, low2 a c b hb, hl]
                subst hm
                simp
            · exact ⟨_, _, _, _, take_err l s _ key pads _ b k n m hs2 (by omega) ht rfl hb9 h8f hn (by omega) hlf hm hms hkey hpads c1 cg c3 _ (bne_iff_ne.2 hE) c4,
                rtake_err l s key pads _ b k n m hs2 (by omega) h0 ht hb0 hb9 hn (by omega) h8f hlf hm hms hkey hpads r1 r3 _ (bne_iff_ne.2 hE) r4, Or.inr ⟨bne_iff_ne.2 hE, rfl, rfl, rfl⟩⟩
      · obtain ⟨n, hn⟩ : ∃ n : Nat, b / 8 = (n : Int) := ⟨(b / 8).toNat, by omega⟩
        exact ⟨_, _, _, _, take_bits l s _ _ b hs2 (by omega) ht rfl hb9 (bne_iff_ne.2 h8) c1 cg, rtake_bits l s _ b n hs2 (by omega) h0 ht hb0 hb9 hn (by omega) (bne_iff_ne.2 h8) r1, hno⟩
  · have hpr : KMk Tab2 48 #[.string l, .string s] (no4 5) := by
      by_cases h3 : s.size = 0
      · obtain rfl : s = ⟨#[]⟩ := by apply ba_ext; exact List.length_eq_zero_iff.1 h3
        exact (take_none l).k
      · exact take_len l s _ (by omega) (bne_iff_ne.2 h1) c1
    refine ⟨_, _, _, _, hpr, ?_, hno⟩
    by_cases h2 : tot (mostN l.data.toList) = 0
    · rw [h2] at r1; exact rtake_none l s r1
    · exact rtake_len l s _ (beq_eq_false_iff_ne.2 h2) (bne_iff_ne.2 h1) r1
end Load
end Go.Proofs.YtpakifiphdlkoaaDoor

/- Package load: what is made is taken; what the laws of layer 36 call awake. -/
namespace Go.Proofs.YtpakifiphdlkoaaDoor
open Go.RowKit
namespace Load
open Kind (Tab2)
open Kind
theorem num_pair (a c : UInt8) : ((Oct.numN [a, c] : Nat) : Int) = (256 : Int) * (a.toNat : Int) + (c.toNat : Int) := by
  show (((0 * 256 + a.toNat) * 256 + c.toNat : Nat) : Int) = _; omega
theorem num2 (b : Int) (h : 0 ≤ b ∧ b ≤ 65535) : ((Oct.numN (RefOct.low b 2) : Nat) : Int) = b := by
  have e1 : (UInt8.ofNat (b / 256).toNat).toNat = (b / 256).toNat := by rw [UInt8.toNat_ofNat']; omega
  have e2 : (UInt8.ofNat (b % 256).toNat).toNat = (b % 256).toNat := by rw [UInt8.toNat_ofNat']; omega
  have hb : (256 : Int) * ((UInt8.ofNat (b / 256).toNat).toNat : Int) + ((UInt8.ofNat (b % 256).toNat).toNat : Int) = b := by rw [e1, e2]; omega
  rw [low2 _ _ b hb, num_pair, hb]
theorem fnd_self (no : Int) (h : (rowOf no).2.1 ≠ 0) : fndL (wants (rowOf no).2.2.1 (rowOf no).2.1) rows 0 = (no, true) := by
  rcases row_cases no with h1 | h1 | h1 | h1 | h1 | h1 | h1 | h1 | h1 | h1 | h1 | h1
  · rw [rowOf_out no h1] at h; exact absurd rfl h
  all_goals subst h1; decide +kernel
theorem chk_size (r : Row) (s : List UInt8) (h : chkE r s = 0) : r.2.1 ≠ 0 ∧ (s.length : Int) = r.2.1 := by
  unfold chkE at h
  by_cases h1 : r.2.1 = 0
  · rw [if_pos h1] at h; cases h
  · rw [if_neg h1] at h
    by_cases h2 : (s.length : Int) ≠ r.2.1
    · rw [if_pos h2] at h; cases h
    · exact ⟨h1, by omega⟩
theorem take_fwd (no : Int) (key pads : ByteArray) (h0 : chkE (rowOf no) key.data.toList = 0) (h1 : (pads.size : Int) = padsI (rowOf no)) :
    KMk Tab2 48 #[.string (bs (rowOf no).2.2.1), .string (PLD key pads)] (.tuple #[.int .i64 no, .string key, .string pads, .int .i64 0]) ∧ ((PLD key pads).size : Int) = tot (mostN (rowOf no).2.2.1) := by
  obtain ⟨hn0, hks⟩ := chk_size _ _ h0
  have hks' : (key.size : Int) = (rowOf no).2.1 := hks
  have hsz := pld_size key pads
  have hrs := row_size no
  have hto := tot_bounds (rowOf no).2.2.1
  have hp2 : (pads.size : Int) = tot (mostN (rowOf no).2.2.1) - 2 - (rowOf no).2.1 := by rw [h1]; unfold padsI; rw [if_neg hn0]
  have hts : ((PLD key pads).size : Int) = tot (mostN (rowOf no).2.2.1) := by omega
  refine ⟨?_, hts⟩
  have c1 := total_k (bs (rowOf no).2.2.1) _ rfl
  rw [list_bs] at c1
  obtain ⟨b, hb⟩ : ∃ b : Int, b = 8 * (key.size : Int) := ⟨_, rfl⟩
  have hpl : (PLD key pads).data.toList = RefOct.low b 2 ++ (key.data.toList ++ pads.data.toList) := by unfold PLD; rw [list_bs, ← hb, List.append_assoc]
  have hll : (RefOct.low b 2).length = 2 := RefOct.low_len b 2
  have hx2 : ((PLD key pads).extract 0 2).data.toList = RefOct.low b 2 := by
    rw [ext_list, hpl, List.drop_zero, List.take_append_of_le_length (by rw [hll]; decide), List.take_of_length_le (by rw [hll]; decide)]
  have cg : Mak 74 #[.string ((PLD key pads).extract 0 2)] (.tuple #[.int .u64 b, .bool true]) := by
    have hz : ((PLD key pads).extract 0 2).size = 2 := by show ((PLD key pads).extract 0 2).data.toList.length = 2; rw [hx2, hll]
    have h : Ret 74 #[.string ((PLD key pads).extract 0 2)] (.tuple #[.int .u64 (Oct.numN ((PLD key pads).extract 0 2).data.toList : Nat), .bool true]) := fun w => Oct.get_in _ w (by omega) (by omega)
    rw [hx2, num2 b (by omega)] at h
    exact h.mak
  have c3 := KMk.t2 (of_k (bs (rowOf no).2.2.1) (key.size : Int) no true (by rw [list_bs, hks']; exact fnd_self no hn0))
  have c4 := check_k no key (by omega) _ rfl
  rw [h0] at c4
  have hd2 : (PLD key pads).data.toList.drop 2 = key.data.toList ++ pads.data.toList := by
    rw [hpl, List.drop_append_of_le_length (by rw [hll]; decide), List.drop_of_length_le (by rw [hll]; decide), List.nil_append]
  exact take_ok _ _ _ key pads _ b no key.size (key.size + 2) (by omega) (by omega) (bne_eq_false_iff_eq.2 hts) rfl (by omega) (bne_eq_false_iff_eq.2 (by omega)) (by omega) (by omega) (decide_eq_false (by omega)) rfl (by omega)
    (by apply ba_ext; rw [ext_list, hd2, List.take_append_of_le_length (by show _ ≤ key.size; omega), List.take_of_length_le (by show key.size ≤ _; omega)])
    (by
      apply ba_ext
      rw [ext_list, List.take_of_length_le (by rw [List.length_drop]; exact Nat.le_refl _), Nat.add_comm, ← List.drop_drop, hd2]
      exact List.drop_left)
    c1 cg c3 c4
set_option maxRecDepth 100000 in
set_option maxHeartbeats 4000000 in
theorem awake_core (c1 : KMk Tab2 48 #[.string ⟨#[84]⟩, .string ⟨#[0, 128, 48, 49, 50, 51, 52, 53, 54, 55, 56, 57, 97, 98, 99, 100, 101, 102, 80, 65, 68, 80, 65, 68, 80, 65, 68, 80, 65, 68, 80, 65]⟩] (.tuple #[.int .i64 4, .string ⟨#[48, 49, 50, 51, 52, 53, 54, 55, 56, 57, 97, 98, 99, 100, 101, 102]⟩, .string ⟨#[80, 65, 68, 80, 65, 68, 80, 65, 68, 80, 65, 68, 80, 65]⟩, .int .i64 0]))
    (c2 : KMk Tab2 50 #[.string ⟨#[65]⟩] (.int .i64 48)) (c3 : KMk Tab2 50 #[.string ⟨#[69]⟩] (.int .i64 80)) (c4 : KMk Tab2 52 #[.int .i64 1] (.int .i64 30)) : KMk Tab2 45 #[] (.bool true) := by
  intro w hT
  have HS := Lib.hid (Since.refl w)
  have HT := Lib.hid hT
  clear hT
  go_enter Tryd.func45, Tryd.ntmps45
  go_wp2_with fail
  repeat (first
    | (with_reducible refine c1.calls0 HT.out ?_; intro wz hz; replace HT := Lib.hid (Kp.keep HT.out hz); replace HS := Lib.hid (HS.out.step hz); clear hz; try go_wp2_with fail)
    | (with_reducible refine c2.calls0 HT.out ?_; intro wz hz; replace HT := Lib.hid (Kp.keep HT.out hz); replace HS := Lib.hid (HS.out.step hz); clear hz; try go_wp2_with fail)
    | (with_reducible refine c3.calls0 HT.out ?_; intro wz hz; replace HT := Lib.hid (Kp.keep HT.out hz); replace HS := Lib.hid (HS.out.step hz); clear hz; try go_wp2_with fail)
    | (with_reducible refine c4.calls0 HT.out ?_; intro wz hz; replace HT := Lib.hid (Kp.keep HT.out hz); replace HS := Lib.hid (HS.out.step hz); clear hz; try go_wp2_with fail))
  go_ret
  exact ⟨rfl, HS.out⟩
theorem awake_k : KMk Tab2 45 #[] (.bool true) :=
  awake_core (take_fwd 4 ⟨#[48, 49, 50, 51, 52, 53, 54, 55, 56, 57, 97, 98, 99, 100, 101, 102]⟩ ⟨#[80, 65, 68, 80, 65, 68, 80, 65, 68, 80, 65, 68, 80, 65]⟩ (by decide +kernel) (by decide +kernel)).1 (total_k ⟨#[65]⟩ 48 (by decide +kernel)) (total_k ⟨#[69]⟩ 80 (by decide +kernel)) (pads_k 1 30 (by decide +kernel))
end Load
end Go.Proofs.YtpakifiphdlkoaaDoor
