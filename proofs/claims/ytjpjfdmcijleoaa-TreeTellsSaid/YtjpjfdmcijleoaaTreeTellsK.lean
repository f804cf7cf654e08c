/- The law TreeTells: whether any tree may be, its bytes, how deep it is, and its parts, are as the document says; no conditions. -/
import Derived.Test.YtjpjfdmcijleoaaRows
import Derived.WalkKit
import Derived.ProofKit
import Derived.OpenShut
import Derived.Lib.Hide
import Derived.Lib.SmallJoins
import Derived.Test.YtjpjfdmcijleoaaTr37
namespace Go.Proofs.Ytjpjfdmcijleoaa.treeTells
open Go.ChangeShapes Go.WideShapes Go.ChangeAt Go.RowKit Tlv Tree
set_option maxRecDepth 100000 in
theorem core_no (N : List Nd) (i : Int) (w : World) (v : Value) (hT : TreeS w v N) (c0 : RdT 6 N (fun v => #[v, .int .i64 60]) (.bool false)) : Calls Try.prog 3 #[v, .int .i64 i] w fun e w' => e = .returned (.bool true) ∧ Since w w' := by
  have HS := Lib.hid (Since.refl w)
  have HT := Lib.hid hT
  clear hT
  go_enter Try.func3, Try.ntmps3
  go_wp2_with fail
  refine c0.calls0 HT.out ?_
  intro w1 h1
  replace HS := Lib.hid (HS.out.step h1)
  replace HT := Lib.hid (HT.out.since h1)
  clear h1
  go_wp2_with fail
  refine awake_mak.calls0 ?_
  intro w2 h2
  replace HS := Lib.hid (HS.out.step h2)
  replace HT := Lib.hid (HT.out.since h2)
  clear h2
  go_wp2_with fail
  go_ret
  exact ⟨rfl, HS.out⟩
set_option maxRecDepth 100000 in
set_option maxHeartbeats 4000000 in
theorem core (N : List Nd) (i : Int) (w : World) (v : Value) (hT : TreeS w v N) (c0 : RdT 6 N (fun v => #[v, .int .i64 60]) (.bool true)) (X : ByteArray) (E : Int) (c1 : RdT 8 N (fun v => #[v]) (.tuple #[.string X, .int .i64 E])) (c2 : RdT 9 N (fun v => #[v]) (.tuple #[.string X, .int .i64 E]))
    (Q : Bool) (c3 : RdT 10 N (fun v => #[v]) (.bool Q)) (c4 : RdT 11 N (fun v => #[v]) (.bool Q)) (c5 : RdT 12 N (fun v => #[v]) (.int .i64 (X.size : Int))) (D : Int) (c6 : RdT 13 N (fun v => #[v]) (.int .i64 D)) (c7 : RdT 14 N (fun v => #[v]) (.int .i64 D))
    (M : List Nd) (c8 : MkE 16 N (fun v => #[v, .int .i64 i]) M) (c9 : MkE 17 N (fun v => #[v, .int .i64 i]) M) (d1 : SameT M) : Calls Try.prog 3 #[v, .int .i64 i] w fun e w' => e = .returned (.bool true) ∧ Since w w' := by
  have HS := Lib.hid (Since.refl w)
  have HT := Lib.hid hT
  have b1 : (E == E) = true := beq_self_eq_true E
  have b2 : (D == D) = true := beq_self_eq_true D
  have b3 : (Q == Q) = true := beq_self_eq_true Q
  have b4 : (X.toList == X.toList) = true := beq_self_eq_true _
  have b5 : ((X.size : Int) == (X.size : Int)) = true := beq_self_eq_true _
  clear hT
  go_enter Try.func3, Try.ntmps3
  go_wp2_with fail
  refine c0.calls0 HT.out ?_
  intro w1 h1
  replace HS := Lib.hid (HS.out.step h1)
  replace HT := Lib.hid (HT.out.since h1)
  clear h1
  go_wp2_with fail
  refine c1.calls0 HT.out ?_
  intro w2 h2
  replace HS := Lib.hid (HS.out.step h2)
  replace HT := Lib.hid (HT.out.since h2)
  clear h2
  go_wp2_with fail
  refine c2.calls0 HT.out ?_
  intro w3 h3
  replace HS := Lib.hid (HS.out.step h3)
  replace HT := Lib.hid (HT.out.since h3)
  clear h3
  go_wp2_with fail
  refine c3.calls0 HT.out ?_
  intro w4 h4
  replace HS := Lib.hid (HS.out.step h4)
  replace HT := Lib.hid (HT.out.since h4)
  clear h4
  go_wp2_with fail
  refine c4.calls0 HT.out ?_
  intro w5 h5
  replace HS := Lib.hid (HS.out.step h5)
  replace HT := Lib.hid (HT.out.since h5)
  clear h5
  go_wp2_with fail
  refine c5.calls0 HT.out ?_
  intro w6 h6
  replace HS := Lib.hid (HS.out.step h6)
  replace HT := Lib.hid (HT.out.since h6)
  clear h6
  go_wp2_with fail
  refine c6.calls0 HT.out ?_
  intro w7 h7
  replace HS := Lib.hid (HS.out.step h7)
  replace HT := Lib.hid (HT.out.since h7)
  clear h7
  go_wp2_with fail
  refine c7.calls0 HT.out ?_
  intro w8 h8
  replace HS := Lib.hid (HS.out.step h8)
  replace HT := Lib.hid (HT.out.since h8)
  clear h8
  go_wp2_with fail
  refine (c8 _ _ HT.out).mono ?_
  rintro _ w9 ⟨v9, rfl, hv9, h9⟩
  have HV := Lib.hid hv9
  clear hv9
  replace HS := Lib.hid (HS.out.step h9)
  replace HT := Lib.hid (HT.out.since h9)
  clear h9
  go_wp2_with fail
  refine (c9 _ _ HT.out).mono ?_
  rintro _ w10 ⟨v10, rfl, hv10, h10⟩
  replace HV := Lib.hid (HV.out.since h10)
  have HV2 := Lib.hid hv10
  clear hv10
  replace HS := Lib.hid (HS.out.step h10)
  replace HT := Lib.hid (HT.out.since h10)
  clear h10
  go_wp2_with fail
  refine (d1 _ _ _ HV.out HV2.out).mono ?_
  rintro _ w11 ⟨rfl, h11⟩
  replace HS := Lib.hid (HS.out.step h11)
  replace HT := Lib.hid (HT.out.since h11)
  clear h11
  go_wp2_with fail
  refine awake_mak.calls0 ?_
  intro w12 h12
  replace HS := Lib.hid (HS.out.step h12)
  replace HT := Lib.hid (HT.out.since h12)
  clear h12
  go_wp2_with fail
  go_ret
  exact ⟨rfl, HS.out⟩
theorem sub_len {N : List Nd} (i : Int) (h : N.length ≤ 1000) : (subV N i).length ≤ 1000000 := by
  unfold subV
  split
  · split
    · unfold subN
      rw [List.length_map, List.length_drop, List.length_take]
      omega
    · exact Nat.zero_le _
  · exact Nat.zero_le _
set_option maxRecDepth 100000 in
theorem walk (w : World) (A : Option Addr) (n c : Nat) (N : List Nd) (i : Int) (hT : TreeS w (.slice A n c) N) (_hN : n = N.length) (_h : True) (_hi : (Lit.int .i64 i).wf = true) : Calls Try.prog 3 #[.slice A n c, .int .i64 i] w fun e w' => e = .returned (.bool true) ∧ Below w.heap.size w w' := by
  have c0 := plain_rd N 60 (by decide) _ rfl
  cases hp : plainT N 60 with
  | false => rw [hp] at c0; exact core_no N i w _ hT c0
  | true =>
    rw [hp] at c0
    obtain ⟨hs, hl, hd, hk⟩ := plain_small (by decide) hp
    obtain ⟨X, E, -, c1, c2⟩ := enc_t N hs (by omega) hd
    obtain ⟨D, -, -, c6, c7⟩ := dep_t N hs
    exact core N i w _ hT c0 X E c1 c2 _ (rig_rd N hs) (rrig_rd N hs) (size_rd N X E c1) D c6 c7 _ (sub_mk N hs i) (rsub_mk N hs i) (same_t _ (sub_len i (by omega)))

set_option maxRecDepth 100000 in
theorem own : ownKnob Try.prog.godebug = none := by kernel_rfl
set_option maxRecDepth 100000 in
theorem laidOut : laidOutB Try.prog = true := by kernel_rfl

set_option maxRecDepth 100000 in
theorem lifted (os : Os) (started : os.Started) (H : Type) (enc : TypeId × Value → H) :
    ReturnsInHanded {} Try.checked os 3 .any (Rows.treeTellsSpec.pre6 enc Try.prog Try.f3 Rows.treeTellsRow.domain false) (Rows.treeTellsSpec.post enc Try.prog Try.f3 false true false false) := by
  refine returnsInHanded_of_change (C := Try.checked) own started (by kernel_rfl) Try.func3
    (ChangeSpec.witness6 (enc := enc) (C := Try.checked) false ⟨#[], #[.slice none 0 0, .int .i64 0], []⟩ 8 (by kernel_rfl) (by kernel_rfl) (by kernel_rfl) (by kernel_rfl)) ?_
  intro W base args ds gs before hval0 hW hcnd _
  have hval : ∀ (j : Nat) t v, Try.f3.params[j]? = some t → args[j]? = some v → Value.okWide Try.prog W .any base t v := hval0
  have hW' := hW
  obtain ⟨p, q, hA0, hV, rfl, hfz, hnd⟩ := hW
  have hA : DataW.TrodAll enc Try.prog W 0 (fun _ => true) true Try.f3.params.toList args.toList ds p := hA0
  rw [Try.params3] at hA hval
  obtain ⟨v0, vs0, d0, ds0, p0, q0, hargs, rfl, rfl, h0, r0⟩ := trodAll_cons hA
  obtain ⟨v1, vs1, d1, ds1, p1, q1, rfl, rfl, rfl, h1, r1⟩ := trodAll_cons r0
  obtain ⟨rfl, rfl, rfl⟩ := trodAll_nil r1
  obtain rfl : args = #[v0, v1] := by cases args; simp_all
  obtain ⟨rfl, rfl⟩ := trodVars_none hV
  obtain ⟨a0, n0, c0, rfl⟩ := okWide_slice Try.underlying23 (hval 0 23 v0 rfl rfl)
  have h0k := h0
  obtain ⟨fuel0, hf0⟩ := h0
  have hlt0 : ∀ x ∈ p0, x.block < W.heap.size := fun x hx => by simpa using hW'.lt x (by simp [hx])
  obtain ⟨x0, lA0, lN0, lX0⟩ := tree_arg hf0 hlt0
  obtain ⟨a1, rfl, rfl, rfl, w1⟩ := open_int Try.underlying3 (hval 1 3 v1 rfl rfl) h1
  clear hA0 hval0
  simp only [List.append_nil] at hW'
  refine (walk W a0 n0 c0 x0 a1 lA0 lN0 lX0 w1).mono fun e W' ⟨he, hg⟩ => ?_
  subst he
  exact ⟨_, rfl, _, _, _, _, _, [], hW', (trodAll_cons_mk (shut_bool Try.underlying4 _) trodAll_mk0), (trodAll_cons_mk (Below.trod laidOut (by kernel_rfl) (of_decide_eq_true (by kernel_rfl)) h0k hg hlt0) (trodAll_cons_mk (shut_int Try.underlying3 w1) trodAll_mk0)), rfl, hg.frame _, fun h => by cases h⟩

set_option maxRecDepth 100000 in
theorem over : Rows.treeTellsRow.holds Try.pinned (OpenSpec.ofChange Rows.treeTellsSpec) :=
  OpenClaim.holds_of_wide 3 Try.f3 rfl rfl rfl rfl rfl rfl rfl ⟨rfl, rfl, rfl, rfl, rfl⟩ rfl rfl rfl rfl rfl (by kernel_rfl) Try.func3 (by kernel_rfl)
    (of_decide_eq_true (by kernel_rfl)) (by unfold Func.isWrapper; first | (rw [if_pos (by decide +kernel)]; kernel_rfl) | (rw [if_neg (by decide +kernel)]; exact ⟨rfl, rfl⟩))
    (fun os started H enc _ => lifted os started H enc)

theorem proved : Rows.TreeTellsSaid :=
  over

end Go.Proofs.Ytjpjfdmcijleoaa.treeTells
