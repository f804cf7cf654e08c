/- The law OptionTells: any option has the signs, any signs are the option, as the document says; padding, too; no conditions. -/
import Derived.Test.YtlmnidpcdibnkaaRows
import Derived.WalkKit
import Derived.ProofKit
import Derived.OpenShut
import Derived.Lib.Hide
import Derived.Test.YtlmnidpcdibnkaaPk19
namespace Go.Proofs.Ytlmnidpcdibnkaa.optionTells
open Go.ChangeShapes Go.WideShapes Go.ChangeAt Go.RowKit
open Opt

set_option maxRecDepth 100000 in
set_option maxHeartbeats 8000000 in
theorem core (i d s : ByteArray) (n : Int) (l1 : i.size ≤ 20) (l2 : d.size ≤ 9100) (l3 : s.size ≤ 2000) (X I D Pd : ByteArray) (E N F : Int)
    (c1 : Mak 25 #[.agg #[.string i, .string d]] (.tuple #[.string X, .int .i64 E])) (c2 : Mak 26 #[.agg #[.string i, .string d]] (.tuple #[.string X, .int .i64 E]))
    (c3 : Mak 27 #[.string s] (.tuple #[.agg #[.string I, .string D], .int .i64 N, .int .i64 F])) (c4 : Mak 28 #[.string s] (.tuple #[.agg #[.string I, .string D], .int .i64 N, .int .i64 F]))
    (c5 : 0 ≤ n ∧ n ≤ 1073741824 → Mak 29 #[.int .i64 n] (.string Pd)) (c6 : 0 ≤ n ∧ n ≤ 1073741824 → Mak 30 #[.int .i64 n] (.string Pd)) (w : World) :
    Calls Try.prog 6 #[.agg #[.string i, .string d], .string s, .int .i64 n] w fun x w' => x = .returned (.bool true) ∧ Since w w' := by
  have t1 : decide ((20 : Int) < (i.size : Int)) = false := decide_eq_false (by omega)
  have t2 : decide ((9100 : Int) < (d.size : Int)) = false := decide_eq_false (by omega)
  have t3 : decide ((2000 : Int) < (s.size : Int)) = false := decide_eq_false (by omega)
  have s1 := str_eq_t (rfl : X = X)
  have s2 := str_eq_t (rfl : I = I)
  have s3 := str_eq_t (rfl : D = D)
  have s4 := str_eq_t (rfl : Pd = Pd)
  by_cases h0 : n < 0
  · have t4 : decide (n < 0) = true := decide_eq_true h0
    clear c5 c6
    have hp := Lib.hid (hb_new w KT trivial #[.string i, .string d] 44)
    obtain ⟨_, m0, m1⟩ := hb2 hp
    have hg := hp.out.lg
    have HS := Lib.hid hp.out.since
    have cA := awake_mak
    clear hp
    go_enter Try.func6, Try.ntmps6
    go_wp2_with fail
    refine c1.calls0 ?_
    intro wz hz
    replace m0 := (Below.cell hz (by exact hg)).trans m0
    replace m1 := (Below.cell hz (by exact hg)).trans m1
    replace hg := Nat.lt_of_lt_of_le hg (Below.size hz)
    replace HS := Lib.hid (HS.out.step hz)
    clear hz
    go_wp2_with fail
    refine c2.calls0 ?_
    intro wz hz
    replace m0 := (Below.cell hz (by exact hg)).trans m0
    replace m1 := (Below.cell hz (by exact hg)).trans m1
    replace hg := Nat.lt_of_lt_of_le hg (Below.size hz)
    replace HS := Lib.hid (HS.out.step hz)
    clear hz
    go_wp2_with fail
    clear m0 m1 hg
    refine c3.calls0 ?_
    intro wz hz
    replace HS := Lib.hid (HS.out.step hz)
    clear hz
    go_wp2_with fail
    obtain ⟨W1, hW1⟩ : ∃ W1, W1 = wz.alloc (.cells #[.string I, .string D] 48) := ⟨_, rfl⟩
    rw [← hW1]
    have hg : wz.heap.size < W1.heap.size := by rw [hW1]; simp
    have m0 : W1.cell? ⟨wz.heap.size, 0, none⟩ = some (.string I) := by rw [hW1]; exact World.cell?_alloc_new _ _ _ _
    have m1 : W1.cell? ⟨wz.heap.size, 1, none⟩ = some (.string D) := by rw [hW1]; exact World.cell?_alloc_new _ _ _ _
    replace HS := Lib.hid (show Since w W1 by rw [hW1]; exact HS.out.alloc _)
    clear hW1
    refine c4.calls0 ?_
    intro wz hz
    replace m0 := (Below.cell hz (by exact hg)).trans m0
    replace m1 := (Below.cell hz (by exact hg)).trans m1
    replace hg := Nat.lt_of_lt_of_le hg (Below.size hz)
    replace HS := Lib.hid (HS.out.step hz)
    clear hz
    go_wp2_with fail
    replace HS := Lib.hid (HS.out.alloc (.cells #[.string I, .string D] 44))
    refine cA.calls0 ?_
    intro wz hz
    replace HS := Lib.hid (HS.out.step hz)
    clear hz
    go_wp2_with fail
    go_ret
    exact ⟨rfl, HS.out⟩
  · have t4 : decide (n < 0) = false := decide_eq_false h0
    by_cases h9 : 1073741824 < n
    · have t5 : decide (1073741824 < n) = true := decide_eq_true h9
      clear c5 c6
      have hp := Lib.hid (hb_new w KT trivial #[.string i, .string d] 44)
      obtain ⟨_, m0, m1⟩ := hb2 hp
      have hg := hp.out.lg
      have HS := Lib.hid hp.out.since
      have cA := awake_mak
      clear hp
      go_enter Try.func6, Try.ntmps6
      go_wp2_with fail
      refine c1.calls0 ?_
      intro wz hz
      replace m0 := (Below.cell hz (by exact hg)).trans m0
      replace m1 := (Below.cell hz (by exact hg)).trans m1
      replace hg := Nat.lt_of_lt_of_le hg (Below.size hz)
      replace HS := Lib.hid (HS.out.step hz)
      clear hz
      go_wp2_with fail
      refine c2.calls0 ?_
      intro wz hz
      replace m0 := (Below.cell hz (by exact hg)).trans m0
      replace m1 := (Below.cell hz (by exact hg)).trans m1
      replace hg := Nat.lt_of_lt_of_le hg (Below.size hz)
      replace HS := Lib.hid (HS.out.step hz)
      clear hz
      go_wp2_with fail
      clear m0 m1 hg
      refine c3.calls0 ?_
      intro wz hz
      replace HS := Lib.hid (HS.out.step hz)
      clear hz
      go_wp2_with fail
      obtain ⟨W1, hW1⟩ : ∃ W1, W1 = wz.alloc (.cells #[.string I, .string D] 48) := ⟨_, rfl⟩
      rw [← hW1]
      have hg : wz.heap.size < W1.heap.size := by rw [hW1]; simp
      have m0 : W1.cell? ⟨wz.heap.size, 0, none⟩ = some (.string I) := by rw [hW1]; exact World.cell?_alloc_new _ _ _ _
      have m1 : W1.cell? ⟨wz.heap.size, 1, none⟩ = some (.string D) := by rw [hW1]; exact World.cell?_alloc_new _ _ _ _
      replace HS := Lib.hid (show Since w W1 by rw [hW1]; exact HS.out.alloc _)
      clear hW1
      refine c4.calls0 ?_
      intro wz hz
      replace m0 := (Below.cell hz (by exact hg)).trans m0
      replace m1 := (Below.cell hz (by exact hg)).trans m1
      replace hg := Nat.lt_of_lt_of_le hg (Below.size hz)
      replace HS := Lib.hid (HS.out.step hz)
      clear hz
      go_wp2_with fail
      replace HS := Lib.hid (HS.out.alloc (.cells #[.string I, .string D] 44))
      refine cA.calls0 ?_
      intro wz hz
      replace HS := Lib.hid (HS.out.step hz)
      clear hz
      go_wp2_with fail
      go_ret
      exact ⟨rfl, HS.out⟩
    · have t5 : decide (1073741824 < n) = false := decide_eq_false h9
      replace c5 := c5 (by omega)
      replace c6 := c6 (by omega)
      have hp := Lib.hid (hb_new w KT trivial #[.string i, .string d] 44)
      obtain ⟨_, m0, m1⟩ := hb2 hp
      have hg := hp.out.lg
      have HS := Lib.hid hp.out.since
      have cA := awake_mak
      clear hp
      go_enter Try.func6, Try.ntmps6
      go_wp2_with fail
      refine c1.calls0 ?_
      intro wz hz
      replace m0 := (Below.cell hz (by exact hg)).trans m0
      replace m1 := (Below.cell hz (by exact hg)).trans m1
      replace hg := Nat.lt_of_lt_of_le hg (Below.size hz)
      replace HS := Lib.hid (HS.out.step hz)
      clear hz
      go_wp2_with fail
      refine c2.calls0 ?_
      intro wz hz
      replace m0 := (Below.cell hz (by exact hg)).trans m0
      replace m1 := (Below.cell hz (by exact hg)).trans m1
      replace hg := Nat.lt_of_lt_of_le hg (Below.size hz)
      replace HS := Lib.hid (HS.out.step hz)
      clear hz
      go_wp2_with fail
      clear m0 m1 hg
      refine c3.calls0 ?_
      intro wz hz
      replace HS := Lib.hid (HS.out.step hz)
      clear hz
      go_wp2_with fail
      obtain ⟨W1, hW1⟩ : ∃ W1, W1 = wz.alloc (.cells #[.string I, .string D] 48) := ⟨_, rfl⟩
      rw [← hW1]
      have hg : wz.heap.size < W1.heap.size := by rw [hW1]; simp
      have m0 : W1.cell? ⟨wz.heap.size, 0, none⟩ = some (.string I) := by rw [hW1]; exact World.cell?_alloc_new _ _ _ _
      have m1 : W1.cell? ⟨wz.heap.size, 1, none⟩ = some (.string D) := by rw [hW1]; exact World.cell?_alloc_new _ _ _ _
      replace HS := Lib.hid (show Since w W1 by rw [hW1]; exact HS.out.alloc _)
      clear hW1
      refine c4.calls0 ?_
      intro wz hz
      replace m0 := (Below.cell hz (by exact hg)).trans m0
      replace m1 := (Below.cell hz (by exact hg)).trans m1
      replace hg := Nat.lt_of_lt_of_le hg (Below.size hz)
      replace HS := Lib.hid (HS.out.step hz)
      clear hz
      go_wp2_with fail
      replace HS := Lib.hid (HS.out.alloc (.cells #[.string I, .string D] 44))
      refine c5.calls0 ?_
      intro wz hz
      replace HS := Lib.hid (HS.out.step hz)
      clear hz
      go_wp2_with fail
      refine c6.calls0 ?_
      intro wz hz
      replace HS := Lib.hid (HS.out.step hz)
      clear hz
      go_wp2_with fail
      refine cA.calls0 ?_
      intro wz hz
      replace HS := Lib.hid (HS.out.step hz)
      clear hz
      go_wp2_with fail
      go_ret
      exact ⟨rfl, HS.out⟩
set_option maxRecDepth 100000 in
theorem core_big (i d s : ByteArray) (n : Int) (hb : 20 < i.size ∨ 9100 < d.size ∨ 2000 < s.size) (w : World) :
    Calls Try.prog 6 #[.agg #[.string i, .string d], .string s, .int .i64 n] w fun x w' => x = .returned (.bool true) ∧ Since w w' := by
  by_cases h1 : 20 < i.size
  · have t1 : decide ((20 : Int) < (i.size : Int)) = true := decide_eq_true (by omega)
    clear hb
    have hp := Lib.hid (hb_new w KT trivial #[.string i, .string d] 44)
    obtain ⟨_, m0, m1⟩ := hb2 hp
    have hg := hp.out.lg
    have HS := Lib.hid hp.out.since
    have cA := awake_mak
    clear hp
    go_enter Try.func6, Try.ntmps6
    go_wp2_with fail
    refine cA.calls0 ?_
    intro wz hz
    replace HS := Lib.hid (HS.out.step hz)
    clear hz
    go_wp2_with fail
    go_ret
    exact ⟨rfl, HS.out⟩
  · have t1 : decide ((20 : Int) < (i.size : Int)) = false := decide_eq_false (by omega)
    by_cases h2 : 9100 < d.size
    · have t2 : decide ((9100 : Int) < (d.size : Int)) = true := decide_eq_true (by omega)
      clear hb
      have hp := Lib.hid (hb_new w KT trivial #[.string i, .string d] 44)
      obtain ⟨_, m0, m1⟩ := hb2 hp
      have hg := hp.out.lg
      have HS := Lib.hid hp.out.since
      have cA := awake_mak
      clear hp
      go_enter Try.func6, Try.ntmps6
      go_wp2_with fail
      refine cA.calls0 ?_
      intro wz hz
      replace HS := Lib.hid (HS.out.step hz)
      clear hz
      go_wp2_with fail
      go_ret
      exact ⟨rfl, HS.out⟩
    · have t2 : decide ((9100 : Int) < (d.size : Int)) = false := decide_eq_false (by omega)
      have t3 : decide ((2000 : Int) < (s.size : Int)) = true := decide_eq_true (by omega)
      clear hb
      have hp := Lib.hid (hb_new w KT trivial #[.string i, .string d] 44)
      obtain ⟨_, m0, m1⟩ := hb2 hp
      have hg := hp.out.lg
      have HS := Lib.hid hp.out.since
      have cA := awake_mak
      clear hp
      go_enter Try.func6, Try.ntmps6
      go_wp2_with fail
      refine cA.calls0 ?_
      intro wz hz
      replace HS := Lib.hid (HS.out.step hz)
      clear hz
      go_wp2_with fail
      go_ret
      exact ⟨rfl, HS.out⟩
set_option maxRecDepth 100000 in
theorem walk (i d s : ByteArray) (n : Int) (_w0 : i.size ≤ maxLen) (_w1 : d.size ≤ maxLen) (_w2 : s.size ≤ maxLen) (_w3 : (Lit.int .i64 n).wf = true) (w : World) :
    Calls Try.prog 6 #[.agg #[.string i, .string d], .string s, .int .i64 n] w fun e w' => e = .returned (.bool true) ∧ Below w.heap.size w w' := by
  by_cases hb : 20 < i.size ∨ 9100 < d.size ∨ 2000 < s.size
  · exact core_big i d s n hb w
  · obtain ⟨c3, c4⟩ := decode_both s (by omega)
    exact core i d s n (by omega) (by omega) (by omega) _ _ _ (padV n) _ _ _ (encode_mak i d (by omega) (by omega) _ _ rfl rfl) (rencode_mak i d (by omega) (by omega) _ _ rfl rfl) c3 c4
      (fun h => padding_mak n (by omega) (by omega) _ rfl) (fun h => rpadding_mak n (by omega) (by omega) _ rfl) w

set_option maxRecDepth 100000 in
theorem own : ownKnob Try.prog.godebug = none := by kernel_rfl

set_option maxRecDepth 100000 in
theorem lifted (os : Os) (started : os.Started) (H : Type) (enc : TypeId × Value → H) :
    ReturnsInHanded {} Try.checked os 6 .any (Rows.optionTellsSpec.pre6 enc Try.prog Try.f6 Rows.optionTellsRow.domain false) (Rows.optionTellsSpec.post enc Try.prog Try.f6 false true false false) := by
  refine returnsInHanded_of_change (C := Try.checked) own started (by kernel_rfl) Try.func6
    (ChangeSpec.witness6 (enc := enc) (C := Try.checked) false ⟨#[], #[.agg #[.string ⟨#[]⟩, .string ⟨#[]⟩], .string ⟨#[]⟩, .int .i64 0], []⟩ 8 (by kernel_rfl) (by kernel_rfl) (by kernel_rfl) (by kernel_rfl)) ?_
  intro W base args ds gs before hval0 hW hcnd _
  have hval : ∀ (j : Nat) t v, Try.f6.params[j]? = some t → args[j]? = some v → Value.okWide Try.prog W .any base t v := hval0
  have hW' := hW
  obtain ⟨p, q, hA0, hV, rfl, hfz, hnd⟩ := hW
  have hA : DataW.TrodAll enc Try.prog W 0 (fun _ => true) true Try.f6.params.toList args.toList ds p := hA0
  rw [Try.params6] at hA hval
  obtain ⟨v0, vs0, d0, ds0, p0, q0, hargs, rfl, rfl, h0, r0⟩ := trodAll_cons hA
  obtain ⟨v1, vs1, d1, ds1, p1, q1, rfl, rfl, rfl, h1, r1⟩ := trodAll_cons r0
  obtain ⟨v2, vs2, d2, ds2, p2, q2, rfl, rfl, rfl, h2, r2⟩ := trodAll_cons r1
  obtain ⟨rfl, rfl, rfl⟩ := trodAll_nil r2
  obtain rfl : args = #[v0, v1, v2] := by cases args; simp_all
  obtain ⟨rfl, rfl⟩ := trodVars_none hV
  obtain ⟨c0_0, c0_1, y0_0, y0_1, m0, rfl, rfl, rfl, hy0_0, hy0_1⟩ := Go.Joins.open_agg2 Try.underlying44 (by kernel_rfl) (by kernel_rfl) (hval 0 44 v0 rfl rfl) h0
  obtain ⟨a0_0, e0_0, rfl, w0_0⟩ := DataW.trod_string Try.underlying9 hy0_0
  simp only [List.cons.injEq, and_true] at e0_0
  subst e0_0
  obtain ⟨a0_1, e0_1, rfl, w0_1⟩ := DataW.trod_string Try.underlying9 hy0_1
  simp only [List.cons.injEq, and_true] at e0_1
  subst e0_1
  obtain ⟨a1, rfl, rfl, rfl, w1⟩ := Go.ChangeMaps.open_string Try.underlying9 (hval 1 9 v1 rfl rfl) h1
  obtain ⟨a2, rfl, rfl, rfl, w2⟩ := open_int Try.underlying3 (hval 2 3 v2 rfl rfl) h2
  clear hA0 hval0
  simp only [List.append_nil] at hW'
  refine (walk a0_0 a0_1 a1 a2 w0_0 w0_1 w1 w2 W).mono fun e W' ⟨he, hg⟩ => ?_
  subst he
  exact ⟨_, rfl, _, _, _, _, _, [], hW', (trodAll_cons_mk (shut_bool Try.underlying4 _) trodAll_mk0), (trodAll_cons_mk (Go.Joins.shut_agg2 (y0 := (.lit (.string a0_0.data.toList), [])) (y1 := (.lit (.string a0_1.data.toList), [])) Try.underlying44 (by kernel_rfl) (by kernel_rfl) (Go.Joins.field_of_Trod (Go.ChangeMaps.shut_string Try.underlying9 w0_0) rfl) (Go.Joins.field_of_Trod (Go.ChangeMaps.shut_string Try.underlying9 w0_1) rfl)) (trodAll_cons_mk (Go.ChangeMaps.shut_string Try.underlying9 w1) (trodAll_cons_mk (shut_int Try.underlying3 w2) trodAll_mk0))), rfl, hg.frame _, fun h => by cases h⟩

set_option maxRecDepth 100000 in
theorem over : Rows.optionTellsRow.holds Try.pinned (OpenSpec.ofChange Rows.optionTellsSpec) :=
  OpenClaim.holds_of_wide 6 Try.f6 rfl rfl rfl rfl rfl rfl rfl ⟨rfl, rfl, rfl, rfl, rfl⟩ rfl rfl rfl rfl rfl (by kernel_rfl) Try.func6 (by kernel_rfl)
    (of_decide_eq_true (by kernel_rfl)) (by unfold Func.isWrapper; first | (rw [if_pos (by decide +kernel)]; kernel_rfl) | (rw [if_neg (by decide +kernel)]; exact ⟨rfl, rfl⟩))
    (fun os started H enc _ => lifted os started H enc)

theorem proved : Rows.OptionTellsSaid :=
  over

end Go.Proofs.Ytlmnidpcdibnkaa.optionTells
