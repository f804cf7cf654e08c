/- The law TlvPieces: elements that stand one behind the other are parted, or have the fault, that the document says; no conditions. -/
import Derived.Test.YtihpndfjcgodiaaRows
import Derived.WalkKit
import Derived.ProofKit
import Derived.OpenShut
import Derived.Lib.Hide
import Derived.Lib.SmallJoins
import Derived.Test.YtihpndfjcgodiaaTv53
import Derived.Test.YtihpndfjcgodiaaTv49
import Derived.Laws.StructEq
namespace Go.Proofs.Ytihpndfjcgodiaa.tlvPieces
open Go.ChangeShapes Go.WideShapes Go.ChangeAt Go.RowKit Tlv
set_option maxRecDepth 100000 in
set_option maxHeartbeats 2000000 in
theorem core_long (s : ByteArray) (h : 2000 < s.size) (w : World) : Calls Try.prog 4 #[.string s] w fun e w' => e = .returned (.bool true) ∧ Since w w' := by
  have HS := Lib.hid (Since.refl w)
  have q1 : decide ((2000 : Int) < (s.size : Int)) = true := decide_eq_true (by omega)
  clear h
  go_enter Try.func4, Try.ntmps4
  go_wp2_with fail
  refine awake.calls0 ?_
  intro w1 h1
  replace HS := Lib.hid (HS.out.step h1)
  clear h1
  go_wp2_with fail
  go_ret
  exact ⟨rfl, HS.out⟩
set_option maxRecDepth 100000 in
set_option maxHeartbeats 4000000 in
theorem core (s : ByteArray) (h : s.size ≤ 2000) (C P : Int) (L : List ByteArray) (c1 : PcR 17 s C P L) (c2 : PcR 18 s C P L) (w : World) : Calls Try.prog 4 #[.string s] w fun e w' => e = .returned (.bool true) ∧ Since w w' := by
  have q1 : decide ((2000 : Int) < (s.size : Int)) = false := decide_eq_false (by omega)
  clear h
  go_enter Try.func4, Try.ntmps4
  go_wp2_with fail
  refine (c1 _).mono ?_
  rintro _ w1 ⟨v1, rfl, hv1, h1⟩
  have hf := Lib.hid (show HR w w1.heap.size #[.int .i64 C, .int .i64 P] 27 (w1.alloc (.cells #[.int .i64 C, .int .i64 P] 27)) from ⟨heap_alloc_new w1 _⟩)
  have HS := Lib.hid (Since.alloc h1 (.cells #[.int .i64 C, .int .i64 P] 27))
  have HV1 := Lib.hid (hv1.since ((Since.refl w1).alloc (.cells #[.int .i64 C, .int .i64 P] 27)))
  unfold F2
  clear h1 hv1 c1
  go_wp2_with fail
  refine (c2 _).mono ?_
  rintro _ w2 ⟨v2, rfl, hv2, h2⟩
  replace hf := Lib.hid (hr_old (hf.out.step h2) (.cells #[.int .i64 C, .int .i64 P] 27))
  have hg := Lib.hid (show HR w w2.heap.size #[.int .i64 C, .int .i64 P] 27 (w2.alloc (.cells #[.int .i64 C, .int .i64 P] 27)) from ⟨heap_alloc_new w2 _⟩)
  replace HS := Lib.hid ((HS.out.step h2).alloc (.cells #[.int .i64 C, .int .i64 P] 27))
  replace HV1 := Lib.hid ((HV1.out.since h2).since ((Since.refl w2).alloc (.cells #[.int .i64 C, .int .i64 P] 27)))
  have HV2 := Lib.hid (hv2.since ((Since.refl w2).alloc (.cells #[.int .i64 C, .int .i64 P] 27)))
  unfold F2
  clear h2 hv2 c2
  go_wp2_with fail
  refine (EqS.equals _ _ _ L L HV1.out HV2.out).mono ?_
  rintro _ w3 ⟨rfl, h3⟩
  replace hf := Lib.hid (hf.out.step h3)
  replace hg := Lib.hid (hg.out.step h3)
  replace HS := Lib.hid (HS.out.step h3)
  have f0 := hr_cell hf.out 0 _ rfl
  have f1 := hr_cell hf.out 1 _ rfl
  have g0 := hr_cell hg.out 0 _ rfl
  have g1 := hr_cell hg.out 1 _ rfl
  rw [decide_eq_true (rfl : L = L)]
  clear h3
  go_wp2_with fail
  refine awake.calls0 ?_
  intro w4 h4
  replace HS := Lib.hid (HS.out.step h4)
  clear h4 f0 f1 g0 g1 hf hg
  go_wp2_with fail
  go_ret
  exact ⟨rfl, HS.out⟩
set_option maxRecDepth 100000 in
theorem walk (a0 : ByteArray) (_w0 : a0.size ≤ maxLen) (w : World) : Calls Try.prog 4 #[.string a0] w fun e w' => e = .returned (.bool true) ∧ Below w.heap.size w w' := by
  by_cases h1 : 2000 < a0.size
  · exact core_long _ h1 w
  · obtain ⟨c, p, L, hv⟩ : ∃ c p L, pcsV a0 = (c, p, L) := ⟨_, _, _, rfl⟩
    exact core a0 (by omega) (c : Int) (p : Int) L (pieces_u a0 (by omega) c p L hv) (fun w' => by
      have hv' := hv
      unfold pcsV at hv'
      rw [if_neg (by omega)] at hv'
      refine (rpieces_t a0 (by omega) _ rfl w').mono ?_
      intro e w2 h
      unfold PPost at h
      cases hq : pcsF a0 (a0.size + 1) 0 with
      | error x =>
        obtain ⟨c', p'⟩ := x
        rw [hq] at h hv'
        dsimp only at h hv'
        cases hv'
        exact ⟨_, h.1, StrsS.nil _, h.2⟩
      | ok l =>
        rw [hq] at h hv'
        dsimp only at h hv'
        cases hv'
        exact h) w

set_option maxRecDepth 100000 in
theorem own : ownKnob Try.prog.godebug = none := by kernel_rfl

set_option maxRecDepth 100000 in
theorem lifted (os : Os) (started : os.Started) (H : Type) (enc : TypeId × Value → H) :
    ReturnsInHanded {} Try.checked os 4 .any (Rows.tlvPiecesSpec.pre6 enc Try.prog Try.f4 Rows.tlvPiecesRow.domain false) (Rows.tlvPiecesSpec.post enc Try.prog Try.f4 false true false false) := by
  refine returnsInHanded_of_change (C := Try.checked) own started (by kernel_rfl) Try.func4
    (ChangeSpec.witness6 (enc := enc) (C := Try.checked) false ⟨#[], #[.string ⟨#[]⟩], []⟩ 8 (by kernel_rfl) (by kernel_rfl) (by kernel_rfl) (by kernel_rfl)) ?_
  intro W base args ds gs before hval0 hW hcnd _
  have hval : ∀ (j : Nat) t v, Try.f4.params[j]? = some t → args[j]? = some v → Value.okWide Try.prog W .any base t v := hval0
  have hW' := hW
  obtain ⟨p, q, hA0, hV, rfl, hfz, hnd⟩ := hW
  have hA : DataW.TrodAll enc Try.prog W 0 (fun _ => true) true Try.f4.params.toList args.toList ds p := hA0
  rw [Try.params4] at hA hval
  obtain ⟨v0, vs0, d0, ds0, p0, q0, hargs, rfl, rfl, h0, r0⟩ := trodAll_cons hA
  obtain ⟨rfl, rfl, rfl⟩ := trodAll_nil r0
  obtain rfl : args = #[v0] := by cases args; simp_all
  obtain ⟨rfl, rfl⟩ := trodVars_none hV
  obtain ⟨a0, rfl, rfl, rfl, w0⟩ := Go.ChangeMaps.open_string Try.underlying9 (hval 0 9 v0 rfl rfl) h0
  clear hA0 hval0
  simp only [List.append_nil] at hW'
  refine (walk a0 w0 W).mono fun e W' ⟨he, hg⟩ => ?_
  subst he
  exact ⟨_, rfl, _, _, _, _, _, [], hW', (trodAll_cons_mk (shut_bool Try.underlying4 _) trodAll_mk0), (trodAll_cons_mk (Go.ChangeMaps.shut_string Try.underlying9 w0) trodAll_mk0), rfl, hg.frame _, fun h => by cases h⟩

set_option maxRecDepth 100000 in
theorem over : Rows.tlvPiecesRow.holds Try.pinned (OpenSpec.ofChange Rows.tlvPiecesSpec) :=
  OpenClaim.holds_of_wide 4 Try.f4 rfl rfl rfl rfl rfl rfl rfl ⟨rfl, rfl, rfl, rfl, rfl⟩ rfl rfl rfl rfl rfl (by kernel_rfl) Try.func4 (by kernel_rfl)
    (of_decide_eq_true (by kernel_rfl)) (by unfold Func.isWrapper; first | (rw [if_pos (by decide +kernel)]; kernel_rfl) | (rw [if_neg (by decide +kernel)]; exact ⟨rfl, rfl⟩))
    (fun os started H enc _ => lifted os started H enc)

theorem proved : Rows.TlvPiecesSaid :=
  over

end Go.Proofs.Ytihpndfjcgodiaa.tlvPieces
