/- The law KindFound: a kind is found by its arcs, its curve and its size, and by its letter and its size; no conditions. -/
import Derived.Test.YtpakifiphdlkoaaDoorRows
import Derived.WalkKit
import Derived.ProofKit
import Derived.OpenShut
import Derived.Lib.Hide
import Derived.Lay
import Derived.SevenTiedAt
import Derived.LaidOnce
import Derived.LaidMore
import Derived.Stop.Joined
import Derived.Test.YtpakifiphdlkoaaDoorTie
import Derived.Test.YtpakifiphdlkoaaDoorCards
import Derived.Test.YtpakifiphdlkoaaDoorKx2
namespace Go.Proofs.YtpakifiphdlkoaaDoor.kindFound
open Go.ChangeShapes Go.WideShapes Go.ChangeAt Go.RowKit
open Kind


set_option maxRecDepth 100000 in
set_option maxHeartbeats 4000000 in
theorem core_none (w : World) (hT : Tab2 w) (no : Int) (c1 : KMk Tab2 35 #[.int .i64 no] (.int .i64 0)) (c2 : KMk Tab2 33 #[.int .i64 no] (.string ⟨#[]⟩)) (c3 : KMk Tab2 37 #[.int .i64 no] (.string ⟨#[]⟩)) (c4 : KMk Tab2 43 #[.int .i64 no, .string ⟨#[]⟩] (.int .i64 8)) :
    Calls Tryd.prog 7 #[.int .i64 no] w fun x w' => x = .returned (.bool true) ∧ Since w w' := by
  have HS := Lib.hid (Since.refl w)
  have HT := Lib.hid hT
  have cA := awake_k
  clear hT
  go_enter Tryd.func7, Tryd.ntmps7
  go_wp2_with fail
  refine (c1.calls0 HT.out) ?_
  intro w1 h1
  replace HT := Lib.hid (HT.out.since (by first | exact h1 | exact (Since.alloc (Since.refl _) _).step h1 | exact (Since.alloc (Since.alloc (Since.refl _) _) _).step h1 | exact (Since.drew (Since.refl _)).step h1 | exact (Since.alloc (Since.alloc (Since.alloc (Since.refl _) _) _) _).step h1))
  replace HS := Lib.hid (HS.out.step (by first | exact h1 | exact (Since.alloc (Since.refl _) _).step h1 | exact (Since.alloc (Since.alloc (Since.refl _) _) _).step h1 | exact (Since.drew (Since.refl _)).step h1 | exact (Since.alloc (Since.alloc (Since.alloc (Since.refl _) _) _) _).step h1))
  clear h1
  go_wp2_with fail
  refine (c2.calls0 HT.out) ?_
  intro w2 h2
  replace HT := Lib.hid (HT.out.since (by first | exact h2 | exact (Since.alloc (Since.refl _) _).step h2 | exact (Since.alloc (Since.alloc (Since.refl _) _) _).step h2 | exact (Since.drew (Since.refl _)).step h2 | exact (Since.alloc (Since.alloc (Since.alloc (Since.refl _) _) _) _).step h2))
  replace HS := Lib.hid (HS.out.step (by first | exact h2 | exact (Since.alloc (Since.refl _) _).step h2 | exact (Since.alloc (Since.alloc (Since.refl _) _) _).step h2 | exact (Since.drew (Since.refl _)).step h2 | exact (Since.alloc (Since.alloc (Since.alloc (Since.refl _) _) _) _).step h2))
  clear h2
  go_wp2_with fail
  refine (c3.calls0 HT.out) ?_
  intro w3 h3
  replace HT := Lib.hid (HT.out.since (by first | exact h3 | exact (Since.alloc (Since.refl _) _).step h3 | exact (Since.alloc (Since.alloc (Since.refl _) _) _).step h3 | exact (Since.drew (Since.refl _)).step h3 | exact (Since.alloc (Since.alloc (Since.alloc (Since.refl _) _) _) _).step h3))
  replace HS := Lib.hid (HS.out.step (by first | exact h3 | exact (Since.alloc (Since.refl _) _).step h3 | exact (Since.alloc (Since.alloc (Since.refl _) _) _).step h3 | exact (Since.drew (Since.refl _)).step h3 | exact (Since.alloc (Since.alloc (Since.alloc (Since.refl _) _) _) _).step h3))
  clear h3
  go_wp2_with fail
  refine (c4.calls0 HT.out) ?_
  intro w4 h4
  replace HT := Lib.hid (HT.out.since (by first | exact h4 | exact (Since.alloc (Since.refl _) _).step h4 | exact (Since.alloc (Since.alloc (Since.refl _) _) _).step h4 | exact (Since.drew (Since.refl _)).step h4 | exact (Since.alloc (Since.alloc (Since.alloc (Since.refl _) _) _) _).step h4))
  replace HS := Lib.hid (HS.out.step (by first | exact h4 | exact (Since.alloc (Since.refl _) _).step h4 | exact (Since.alloc (Since.alloc (Since.refl _) _) _).step h4 | exact (Since.drew (Since.refl _)).step h4 | exact (Since.alloc (Since.alloc (Since.alloc (Since.refl _) _) _) _).step h4))
  clear h4
  go_wp2_with fail
  refine (cA.calls0 HT.out) ?_
  intro w5 h5
  replace HS := Lib.hid (HS.out.step (by first | exact h5 | exact (Since.alloc (Since.refl _) _).step h5 | exact (Since.alloc (Since.alloc (Since.refl _) _) _).step h5 | exact (Since.drew (Since.refl _)).step h5 | exact (Since.alloc (Since.alloc (Since.alloc (Since.refl _) _) _) _).step h5))
  clear h5
  go_wp2_with fail
  go_ret
  exact ⟨rfl, HS.out⟩
set_option maxRecDepth 100000 in
set_option maxHeartbeats 4000000 in
theorem core (w : World) (hT : Tab2 w) (no S C M : Int) (L : ByteArray) (xs : List Int) (hS : 1 ≤ S) (hM : S ≤ M) (c1 : KMk Tab2 35 #[.int .i64 no] (.int .i64 S)) (c2 : Curve.KMkI Tabs 41 #[.int .i64 no] xs) (c3 : KMk Tab2 39 #[.int .i64 no] (.int .i64 C)) (c4 : KRdI3 Tabs 27 xs C S (.tuple #[.int .i64 no, .bool true]))
    (c5 : KMk Tab2 37 #[.int .i64 no] (.string L)) (c6 : KMk Tab2 29 #[.string L, .int .i64 S] (.tuple #[.int .i64 no, .bool true])) (c7 : KMk Tab2 31 #[.string L] (.int .i64 M)) :
    Calls Tryd.prog 7 #[.int .i64 no] w fun x w' => x = .returned (.bool true) ∧ Since w w' := by
  have HS := Lib.hid (Since.refl w)
  have HT := Lib.hid hT
  have t1 : decide (S < 1) = false := decide_eq_false (by omega)
  have t2 : decide (S ≤ M) = true := decide_eq_true hM
  have cA := awake_k
  clear hT
  go_enter Tryd.func7, Tryd.ntmps7
  go_wp2_with fail
  refine (c1.calls0 HT.out) ?_
  intro w1 h1
  replace HT := Lib.hid (HT.out.since (by first | exact h1 | exact (Since.alloc (Since.refl _) _).step h1 | exact (Since.alloc (Since.alloc (Since.refl _) _) _).step h1 | exact (Since.drew (Since.refl _)).step h1 | exact (Since.alloc (Since.alloc (Since.alloc (Since.refl _) _) _) _).step h1))
  replace HS := Lib.hid (HS.out.step (by first | exact h1 | exact (Since.alloc (Since.refl _) _).step h1 | exact (Since.alloc (Since.alloc (Since.refl _) _) _).step h1 | exact (Since.drew (Since.refl _)).step h1 | exact (Since.alloc (Since.alloc (Since.alloc (Since.refl _) _) _) _).step h1))
  clear h1
  go_wp2_with fail
  refine (c2.calls0 HT.out.1) ?_
  intro v2 w2 hv2 h2
  have HV2 := Lib.hid hv2
  clear hv2
  replace HT := Lib.hid (HT.out.since (by first | exact h2 | exact (Since.alloc (Since.refl _) _).step h2 | exact (Since.alloc (Since.alloc (Since.refl _) _) _).step h2 | exact (Since.drew (Since.refl _)).step h2 | exact (Since.alloc (Since.alloc (Since.alloc (Since.refl _) _) _) _).step h2))
  replace HS := Lib.hid (HS.out.step (by first | exact h2 | exact (Since.alloc (Since.refl _) _).step h2 | exact (Since.alloc (Since.alloc (Since.refl _) _) _).step h2 | exact (Since.drew (Since.refl _)).step h2 | exact (Since.alloc (Since.alloc (Since.alloc (Since.refl _) _) _) _).step h2))
  clear h2
  go_wp2_with fail
  refine (c3.calls0 HT.out) ?_
  intro w3 h3
  replace HT := Lib.hid (HT.out.since (by first | exact h3 | exact (Since.alloc (Since.refl _) _).step h3 | exact (Since.alloc (Since.alloc (Since.refl _) _) _).step h3 | exact (Since.drew (Since.refl _)).step h3 | exact (Since.alloc (Since.alloc (Since.alloc (Since.refl _) _) _) _).step h3))
  replace HV2 := Lib.hid (HV2.out.since (by first | exact h3 | exact (Since.alloc (Since.refl _) _).step h3 | exact (Since.alloc (Since.alloc (Since.refl _) _) _).step h3 | exact (Since.drew (Since.refl _)).step h3 | exact (Since.alloc (Since.alloc (Since.alloc (Since.refl _) _) _) _).step h3))
  replace HS := Lib.hid (HS.out.step (by first | exact h3 | exact (Since.alloc (Since.refl _) _).step h3 | exact (Since.alloc (Since.alloc (Since.refl _) _) _).step h3 | exact (Since.drew (Since.refl _)).step h3 | exact (Since.alloc (Since.alloc (Since.alloc (Since.refl _) _) _) _).step h3))
  clear h3
  go_wp2_with fail
  refine (c4.calls0 HV2.out HT.out.1) ?_
  intro w4 h4
  replace HT := Lib.hid (HT.out.since (by first | exact h4 | exact (Since.alloc (Since.refl _) _).step h4 | exact (Since.alloc (Since.alloc (Since.refl _) _) _).step h4 | exact (Since.drew (Since.refl _)).step h4 | exact (Since.alloc (Since.alloc (Since.alloc (Since.refl _) _) _) _).step h4))
  replace HS := Lib.hid (HS.out.step (by first | exact h4 | exact (Since.alloc (Since.refl _) _).step h4 | exact (Since.alloc (Since.alloc (Since.refl _) _) _).step h4 | exact (Since.drew (Since.refl _)).step h4 | exact (Since.alloc (Since.alloc (Since.alloc (Since.refl _) _) _) _).step h4))
  clear h4
  go_wp2_with fail
  refine (c5.calls0 HT.out) ?_
  intro w5 h5
  replace HT := Lib.hid (HT.out.since (by first | exact h5 | exact (Since.alloc (Since.refl _) _).step h5 | exact (Since.alloc (Since.alloc (Since.refl _) _) _).step h5 | exact (Since.drew (Since.refl _)).step h5 | exact (Since.alloc (Since.alloc (Since.alloc (Since.refl _) _) _) _).step h5))
  replace HS := Lib.hid (HS.out.step (by first | exact h5 | exact (Since.alloc (Since.refl _) _).step h5 | exact (Since.alloc (Since.alloc (Since.refl _) _) _).step h5 | exact (Since.drew (Since.refl _)).step h5 | exact (Since.alloc (Since.alloc (Since.alloc (Since.refl _) _) _) _).step h5))
  clear h5
  go_wp2_with fail
  refine (c6.calls0 HT.out) ?_
  intro w6 h6
  replace HT := Lib.hid (HT.out.since (by first | exact h6 | exact (Since.alloc (Since.refl _) _).step h6 | exact (Since.alloc (Since.alloc (Since.refl _) _) _).step h6 | exact (Since.drew (Since.refl _)).step h6 | exact (Since.alloc (Since.alloc (Since.alloc (Since.refl _) _) _) _).step h6))
  replace HS := Lib.hid (HS.out.step (by first | exact h6 | exact (Since.alloc (Since.refl _) _).step h6 | exact (Since.alloc (Since.alloc (Since.refl _) _) _).step h6 | exact (Since.drew (Since.refl _)).step h6 | exact (Since.alloc (Since.alloc (Since.alloc (Since.refl _) _) _) _).step h6))
  clear h6
  go_wp2_with fail
  refine (c5.calls0 HT.out) ?_
  intro w7 h7
  replace HT := Lib.hid (HT.out.since (by first | exact h7 | exact (Since.alloc (Since.refl _) _).step h7 | exact (Since.alloc (Since.alloc (Since.refl _) _) _).step h7 | exact (Since.drew (Since.refl _)).step h7 | exact (Since.alloc (Since.alloc (Since.alloc (Since.refl _) _) _) _).step h7))
  replace HS := Lib.hid (HS.out.step (by first | exact h7 | exact (Since.alloc (Since.refl _) _).step h7 | exact (Since.alloc (Since.alloc (Since.refl _) _) _).step h7 | exact (Since.drew (Since.refl _)).step h7 | exact (Since.alloc (Since.alloc (Since.alloc (Since.refl _) _) _) _).step h7))
  clear h7
  go_wp2_with fail
  refine (c7.calls0 HT.out) ?_
  intro w8 h8
  replace HT := Lib.hid (HT.out.since (by first | exact h8 | exact (Since.alloc (Since.refl _) _).step h8 | exact (Since.alloc (Since.alloc (Since.refl _) _) _).step h8 | exact (Since.drew (Since.refl _)).step h8 | exact (Since.alloc (Since.alloc (Since.alloc (Since.refl _) _) _) _).step h8))
  replace HS := Lib.hid (HS.out.step (by first | exact h8 | exact (Since.alloc (Since.refl _) _).step h8 | exact (Since.alloc (Since.alloc (Since.refl _) _) _).step h8 | exact (Since.drew (Since.refl _)).step h8 | exact (Since.alloc (Since.alloc (Since.alloc (Since.refl _) _) _) _).step h8))
  clear h8
  go_wp2_with fail
  refine (cA.calls0 HT.out) ?_
  intro w9 h9
  replace HS := Lib.hid (HS.out.step (by first | exact h9 | exact (Since.alloc (Since.refl _) _).step h9 | exact (Since.alloc (Since.alloc (Since.refl _) _) _).step h9 | exact (Since.drew (Since.refl _)).step h9 | exact (Since.alloc (Since.alloc (Since.alloc (Since.refl _) _) _) _).step h9))
  clear h9
  go_wp2_with fail
  go_ret
  exact ⟨rfl, HS.out⟩
theorem txt_row (no : Int) (l : List Int) (h1 : Oid.Ok l) (h2 : Oid.txt l = (rowOf no).2.2.2.2) : (Oid.txtS (arcsL (rowOf no))).data.toList = (rowOf no).2.2.2.2 := by
  have h := Curve.arcs_lit _ l h1 h2
  unfold arcsL
  rw [h.2, Oid.txtS, if_pos h1, list_bs, h2]
set_option maxRecDepth 100000 in
theorem row_1 (w : World) (hT : Tab2 w) : Calls Tryd.prog 7 #[.int .i64 1] w fun x w' => x = .returned (.bool true) ∧ Since w w' := by
  have ht := txt_row 1 [2, 16, 840, 1, 101, 3, 4, 1, 1] (by unfold Oid.Ok; decide) (by decide +kernel)
  exact core w hT 1 (rowOf 1).2.1 (rowOf 1).2.2.2.1 (mostN (bs (rowOf 1).2.2.1).data.toList) (bs (rowOf 1).2.2.1) (arcsL (rowOf 1)) (by decide +kernel) (by decide +kernel)
    (KMk.t2 (size_k 1 _ rfl)) (arcs_k 1 _ rfl) (KMk.t2 (curve_k 1 _ rfl)) (by_rd _ _ _ 1 true (by rw [ht]; decide +kernel)) (KMk.t2 (letter_k 1 _ rfl)) (KMk.t2 (of_k _ _ 1 true (by decide +kernel))) (KMk.t2 (most_k _ _ rfl))
set_option maxRecDepth 100000 in
theorem row_2 (w : World) (hT : Tab2 w) : Calls Tryd.prog 7 #[.int .i64 2] w fun x w' => x = .returned (.bool true) ∧ Since w w' := by
  have ht := txt_row 2 [2, 16, 840, 1, 101, 3, 4, 1, 21] (by unfold Oid.Ok; decide) (by decide +kernel)
  exact core w hT 2 (rowOf 2).2.1 (rowOf 2).2.2.2.1 (mostN (bs (rowOf 2).2.2.1).data.toList) (bs (rowOf 2).2.2.1) (arcsL (rowOf 2)) (by decide +kernel) (by decide +kernel)
    (KMk.t2 (size_k 2 _ rfl)) (arcs_k 2 _ rfl) (KMk.t2 (curve_k 2 _ rfl)) (by_rd _ _ _ 2 true (by rw [ht]; decide +kernel)) (KMk.t2 (letter_k 2 _ rfl)) (KMk.t2 (of_k _ _ 2 true (by decide +kernel))) (KMk.t2 (most_k _ _ rfl))
set_option maxRecDepth 100000 in
theorem row_3 (w : World) (hT : Tab2 w) : Calls Tryd.prog 7 #[.int .i64 3] w fun x w' => x = .returned (.bool true) ∧ Since w w' := by
  have ht := txt_row 3 [2, 16, 840, 1, 101, 3, 4, 1, 41] (by unfold Oid.Ok; decide) (by decide +kernel)
  exact core w hT 3 (rowOf 3).2.1 (rowOf 3).2.2.2.1 (mostN (bs (rowOf 3).2.2.1).data.toList) (bs (rowOf 3).2.2.1) (arcsL (rowOf 3)) (by decide +kernel) (by decide +kernel)
    (KMk.t2 (size_k 3 _ rfl)) (arcs_k 3 _ rfl) (KMk.t2 (curve_k 3 _ rfl)) (by_rd _ _ _ 3 true (by rw [ht]; decide +kernel)) (KMk.t2 (letter_k 3 _ rfl)) (KMk.t2 (of_k _ _ 3 true (by decide +kernel))) (KMk.t2 (most_k _ _ rfl))
set_option maxRecDepth 100000 in
theorem row_4 (w : World) (hT : Tab2 w) : Calls Tryd.prog 7 #[.int .i64 4] w fun x w' => x = .returned (.bool true) ∧ Since w w' := by
  have ht := txt_row 4 [1, 2, 840, 113549, 3, 7] (by unfold Oid.Ok; decide) (by decide +kernel)
  exact core w hT 4 (rowOf 4).2.1 (rowOf 4).2.2.2.1 (mostN (bs (rowOf 4).2.2.1).data.toList) (bs (rowOf 4).2.2.1) (arcsL (rowOf 4)) (by decide +kernel) (by decide +kernel)
    (KMk.t2 (size_k 4 _ rfl)) (arcs_k 4 _ rfl) (KMk.t2 (curve_k 4 _ rfl)) (by_rd _ _ _ 4 true (by rw [ht]; decide +kernel)) (KMk.t2 (letter_k 4 _ rfl)) (KMk.t2 (of_k _ _ 4 true (by decide +kernel))) (KMk.t2 (most_k _ _ rfl))
set_option maxRecDepth 100000 in
theorem row_5 (w : World) (hT : Tab2 w) : Calls Tryd.prog 7 #[.int .i64 5] w fun x w' => x = .returned (.bool true) ∧ Since w w' := by
  have ht := txt_row 5 [1, 2, 840, 113549, 3, 7] (by unfold Oid.Ok; decide) (by decide +kernel)
  exact core w hT 5 (rowOf 5).2.1 (rowOf 5).2.2.2.1 (mostN (bs (rowOf 5).2.2.1).data.toList) (bs (rowOf 5).2.2.1) (arcsL (rowOf 5)) (by decide +kernel) (by decide +kernel)
    (KMk.t2 (size_k 5 _ rfl)) (arcs_k 5 _ rfl) (KMk.t2 (curve_k 5 _ rfl)) (by_rd _ _ _ 5 true (by rw [ht]; decide +kernel)) (KMk.t2 (letter_k 5 _ rfl)) (KMk.t2 (of_k _ _ 5 true (by decide +kernel))) (KMk.t2 (most_k _ _ rfl))
set_option maxRecDepth 100000 in
theorem row_6 (w : World) (hT : Tab2 w) : Calls Tryd.prog 7 #[.int .i64 6] w fun x w' => x = .returned (.bool true) ∧ Since w w' := by
  have ht := txt_row 6 [1, 2, 840, 113549, 2, 9] (by unfold Oid.Ok; decide) (by decide +kernel)
  exact core w hT 6 (rowOf 6).2.1 (rowOf 6).2.2.2.1 (mostN (bs (rowOf 6).2.2.1).data.toList) (bs (rowOf 6).2.2.1) (arcsL (rowOf 6)) (by decide +kernel) (by decide +kernel)
    (KMk.t2 (size_k 6 _ rfl)) (arcs_k 6 _ rfl) (KMk.t2 (curve_k 6 _ rfl)) (by_rd _ _ _ 6 true (by rw [ht]; decide +kernel)) (KMk.t2 (letter_k 6 _ rfl)) (KMk.t2 (of_k _ _ 6 true (by decide +kernel))) (KMk.t2 (most_k _ _ rfl))
set_option maxRecDepth 100000 in
theorem row_7 (w : World) (hT : Tab2 w) : Calls Tryd.prog 7 #[.int .i64 7] w fun x w' => x = .returned (.bool true) ∧ Since w w' := by
  have ht := txt_row 7 [1, 2, 840, 113549, 2, 11] (by unfold Oid.Ok; decide) (by decide +kernel)
  exact core w hT 7 (rowOf 7).2.1 (rowOf 7).2.2.2.1 (mostN (bs (rowOf 7).2.2.1).data.toList) (bs (rowOf 7).2.2.1) (arcsL (rowOf 7)) (by decide +kernel) (by decide +kernel)
    (KMk.t2 (size_k 7 _ rfl)) (arcs_k 7 _ rfl) (KMk.t2 (curve_k 7 _ rfl)) (by_rd _ _ _ 7 true (by rw [ht]; decide +kernel)) (KMk.t2 (letter_k 7 _ rfl)) (KMk.t2 (of_k _ _ 7 true (by decide +kernel))) (KMk.t2 (most_k _ _ rfl))
set_option maxRecDepth 100000 in
theorem row_8 (w : World) (hT : Tab2 w) : Calls Tryd.prog 7 #[.int .i64 8] w fun x w' => x = .returned (.bool true) ∧ Since w w' := by
  have ht := txt_row 8 [1, 2, 840, 10045, 2, 1] (by unfold Oid.Ok; decide) (by decide +kernel)
  exact core w hT 8 (rowOf 8).2.1 (rowOf 8).2.2.2.1 (mostN (bs (rowOf 8).2.2.1).data.toList) (bs (rowOf 8).2.2.1) (arcsL (rowOf 8)) (by decide +kernel) (by decide +kernel)
    (KMk.t2 (size_k 8 _ rfl)) (arcs_k 8 _ rfl) (KMk.t2 (curve_k 8 _ rfl)) (by_rd _ _ _ 8 true (by rw [ht]; decide +kernel)) (KMk.t2 (letter_k 8 _ rfl)) (KMk.t2 (of_k _ _ 8 true (by decide +kernel))) (KMk.t2 (most_k _ _ rfl))
set_option maxRecDepth 100000 in
theorem row_9 (w : World) (hT : Tab2 w) : Calls Tryd.prog 7 #[.int .i64 9] w fun x w' => x = .returned (.bool true) ∧ Since w w' := by
  have ht := txt_row 9 [1, 2, 840, 10045, 2, 1] (by unfold Oid.Ok; decide) (by decide +kernel)
  exact core w hT 9 (rowOf 9).2.1 (rowOf 9).2.2.2.1 (mostN (bs (rowOf 9).2.2.1).data.toList) (bs (rowOf 9).2.2.1) (arcsL (rowOf 9)) (by decide +kernel) (by decide +kernel)
    (KMk.t2 (size_k 9 _ rfl)) (arcs_k 9 _ rfl) (KMk.t2 (curve_k 9 _ rfl)) (by_rd _ _ _ 9 true (by rw [ht]; decide +kernel)) (KMk.t2 (letter_k 9 _ rfl)) (KMk.t2 (of_k _ _ 9 true (by decide +kernel))) (KMk.t2 (most_k _ _ rfl))
set_option maxRecDepth 100000 in
theorem row_10 (w : World) (hT : Tab2 w) : Calls Tryd.prog 7 #[.int .i64 10] w fun x w' => x = .returned (.bool true) ∧ Since w w' := by
  have ht := txt_row 10 [1, 2, 840, 10045, 2, 1] (by unfold Oid.Ok; decide) (by decide +kernel)
  exact core w hT 10 (rowOf 10).2.1 (rowOf 10).2.2.2.1 (mostN (bs (rowOf 10).2.2.1).data.toList) (bs (rowOf 10).2.2.1) (arcsL (rowOf 10)) (by decide +kernel) (by decide +kernel)
    (KMk.t2 (size_k 10 _ rfl)) (arcs_k 10 _ rfl) (KMk.t2 (curve_k 10 _ rfl)) (by_rd _ _ _ 10 true (by rw [ht]; decide +kernel)) (KMk.t2 (letter_k 10 _ rfl)) (KMk.t2 (of_k _ _ 10 true (by decide +kernel))) (KMk.t2 (most_k _ _ rfl))
set_option maxRecDepth 100000 in
theorem row_11 (w : World) (hT : Tab2 w) : Calls Tryd.prog 7 #[.int .i64 11] w fun x w' => x = .returned (.bool true) ∧ Since w w' := by
  have ht := txt_row 11 [1, 2, 840, 10045, 2, 1] (by unfold Oid.Ok; decide) (by decide +kernel)
  exact core w hT 11 (rowOf 11).2.1 (rowOf 11).2.2.2.1 (mostN (bs (rowOf 11).2.2.1).data.toList) (bs (rowOf 11).2.2.1) (arcsL (rowOf 11)) (by decide +kernel) (by decide +kernel)
    (KMk.t2 (size_k 11 _ rfl)) (arcs_k 11 _ rfl) (KMk.t2 (curve_k 11 _ rfl)) (by_rd _ _ _ 11 true (by rw [ht]; decide +kernel)) (KMk.t2 (letter_k 11 _ rfl)) (KMk.t2 (of_k _ _ 11 true (by decide +kernel))) (KMk.t2 (most_k _ _ rfl))
set_option maxRecDepth 100000 in
theorem walk (no : Int) (_w0 : (Lit.int .i64 no).wf = true) (w : World) (hT : Tab2 w) :
    Calls Tryd.prog 7 #[.int .i64 no] w fun e w' => e = .returned (.bool true) ∧ Below w.heap.size w w' := by
  rcases row_cases no with h | rfl | rfl | rfl | rfl | rfl | rfl | rfl | rfl | rfl | rfl | rfl
  · exact core_none w hT no (KMk.t2 (size_k no 0 (by rw [rowOf_out no h]; rfl))) (KMk.t2 (name_k no _ (by rw [rowOf_out no h]; rfl))) (KMk.t2 (letter_k no _ (by rw [rowOf_out no h]; rfl))) (check_k no ⟨#[]⟩ (by decide) 8 (by rw [rowOf_out no h]; decide +kernel))
  · exact row_1 w hT
  · exact row_2 w hT
  · exact row_3 w hT
  · exact row_4 w hT
  · exact row_5 w hT
  · exact row_6 w hT
  · exact row_7 w hT
  · exact row_8 w hT
  · exact row_9 w hT
  · exact row_10 w hT
  · exact row_11 w hT

set_option maxRecDepth 100000 in
theorem own : ownKnob Tryd.prog.godebug = none := by kernel_rfl

def laidL : List (String × DataW Unit) := [("unicode/utf8.acceptRanges", Rows.laid_unicode_utf8_acceptRanges), ("claviger/curve.lines", Rows.laid_claviger_curve_lines), ("claviger/kind.lines", Rows.laid_claviger_kind_lines), ("unicode/utf8.first", Rows.laid_unicode_utf8_first)]
set_option maxRecDepth 100000 in
theorem lifted (os : Os) (started : os.Started) (H : Type) (enc : TypeId × Value → H) :
    ReturnsInHanded {} Tryd.checked os 7 .any (fun w args => (Rows.kindFoundSpec.pre enc Tryd.prog Tryd.f7 [] false w args ∧ laidMetH Tryd.prog laidL w) ∧ sizedMet enc Tryd.prog Tryd.f7 (OpenSpec.ofChange Rows.kindFoundSpec) false w args)
      (Rows.kindFoundSpec.post enc Tryd.prog Tryd.f7 false true false false) := by
  refine returnsInHanded_of_change_and (C := Tryd.checked) (X := fun w _ => laidMetH Tryd.prog laidL w) (fun _ _ _ hh h => h.of_heap hh) own started (by kernel_rfl) Tryd.func7
    (ChangeSpec.witness_shaped (enc := enc) (C := Tryd.checked) (os := os) (X := fun w _ => laidMetH Tryd.prog laidL w) false (World.laidAll Tryd.prog os laidL) #[.int .i64 0] 8 (World.laidAll_os _ _ _) (World.shaped_of_ZipB (by kernel_rfl) (by kernel_rfl)) (by kernel_rfl) (by kernel_rfl) (by kernel_rfl) (by rw [MakeChecks.laidMetH_plain _ _ _ (by kernel_rfl)]; exact laidMet_laidAll _ (by kernel_rfl) (by kernel_rfl))) ?_
  intro W base args ds gs before hval0 hW _ _ hL _
  have hval : ∀ (j : Nat) t v, Tryd.f7.params[j]? = some t → args[j]? = some v → Value.okWide Tryd.prog W .any base t v := hval0
  have hW' := hW
  obtain ⟨p, q, hA0, hV, rfl, hfz, hnd⟩ := hW
  have hA : DataW.TrodAll enc Tryd.prog W 0 (fun _ => true) true Tryd.f7.params.toList args.toList ds p := hA0
  rw [Tryd.params7] at hA hval
  obtain ⟨v0, vs0, d0, ds0, p0, q0, hargs, rfl, rfl, h0, r0⟩ := trodAll_cons hA
  obtain ⟨rfl, rfl, rfl⟩ := trodAll_nil r0
  obtain rfl : args = #[v0] := by cases args; simp_all
  obtain ⟨rfl, rfl⟩ := trodVars_none hV
  obtain ⟨a0, rfl, rfl, rfl, w0⟩ := open_int Tryd.underlying3 (hval 0 3 v0 rfl rfl) h0
  clear hA0 hval0
  simp only [List.append_nil] at hW'
  refine (walk a0 w0 W (Kind.tabs4_of hL)).mono fun e W' ⟨he, hg⟩ => ?_
  subst he
  exact ⟨_, rfl, _, _, _, _, _, [], hW', (trodAll_cons_mk (shut_bool Tryd.underlying4 _) trodAll_mk0), (trodAll_cons_mk (shut_int Tryd.underlying3 w0) trodAll_mk0), rfl, hg.frame _, fun h => by cases h⟩

set_option maxRecDepth 100000 in
theorem over : Rows.kindFoundRow.holds Tryd.pinned (OpenSpec.ofChange Rows.kindFoundSpec) :=
  OpenClaim.holds_of_wide 7 Tryd.f7 rfl rfl rfl rfl rfl rfl rfl ⟨rfl, rfl, rfl, rfl, rfl⟩ rfl rfl rfl rfl rfl (by kernel_rfl) Tryd.func7 (by kernel_rfl)
    (of_decide_eq_true (by kernel_rfl)) (by unfold Func.isWrapper; first | (rw [if_pos (by decide +kernel)]; kernel_rfl) | (rw [if_neg (by decide +kernel)]; exact ⟨rfl, rfl⟩))
    (fun os started H enc _ => lifted os started H enc)

set_option maxRecDepth 100000 in
theorem proved : Rows.KindFoundCardSaid :=
  Claim7.holds_tied_plain_at .later [] [.data, .data, .data, .pinned] true Rows.kindFoundCard.stood.harness false
    over (fun _ h => by cases h) (by kernel_rfl) (fun _ h => by cases h) kindFound_row_tie rfl ⟨rfl, rfl⟩ (by kernel_rfl) rfl
    (fun f fn hf hfn => by
      obtain rfl : f = 7 := Option.some.inj ((show Tryd.prog.funcNamed "claviger/clavigerlaw23.KindFound" = some 7 by kernel_rfl).symm.trans hf) |>.symm
      obtain rfl : fn = Tryd.f7 := (Option.some.inj (Tryd.func7.symm.trans hfn)).symm
      exact ⟨by kernel_rfl, fun j t ht => by
        rw [Tryd.params7] at ht
        have hm : t ∈ [3] := by simpa using Array.mem_of_getElem? ht
        have hall : ([3].all fun u => !Tryd.prog.wantsStandIn u) = true := by kernel_rfl
        exact (show Tryd.prog.wantsStandIn t = false by simpa using List.all_eq_true.1 hall t hm)⟩)
    (by kernel_rfl)

end Go.Proofs.YtpakifiphdlkoaaDoor.kindFound
