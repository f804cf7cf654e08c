/- The law PadwrapOne: whatever bytes are unwrapped: wrapped again with padding they are just these; no conditions. -/
import Derived.Test.YtefoonegobcoaaaRows
import Derived.WalkKit
import Derived.ProofKit
import Derived.OpenShut
import Derived.Lib.Hide
import Derived.Test.YtefoonegobcoaaaPk36
namespace Go.Proofs.Ytefoonegobcoaaa.padwrapOne
open Go.ChangeShapes Go.WideShapes Go.ChangeAt Go.RowKit
open Aes Wrap Pad

set_option maxRecDepth 100000 in
set_option maxHeartbeats 4000000 in
theorem core_no (key c : ByteArray) (hk : (key.size : Int) ≤ 100) (hs : (c.size : Int) ≤ 96) (e : Int) (he : e = 2 ∨ e = 4 ∨ e = 7)
    (c1 : Mak 25 #[.string key, .string c] (.tuple #[.string ⟨#[]⟩, .int .i64 e])) (w : World) :
    Calls Try.prog 8 #[.string key, .string c] w fun x w' => x = .returned (.bool true) ∧ Since w w' := by
  have H0 := Lib.hid (Since.refl w)
  have t1 : decide ((100 : Int) < (key.size : Int)) = false := decide_eq_false (by omega)
  have t3 : decide ((96 : Int) < (c.size : Int)) = false := decide_eq_false (by omega)
  rcases he with rfl | rfl | rfl
  all_goals
    go_enter Try.func8, Try.ntmps8
    go_wp2_with fail
    refine c1.calls H0.out ?_
    intro w1 h1
    have H1 := Lib.hid h1
    clear h1
    go_wp2_with fail
    refine Pad.awake_mak.calls H1.out ?_
    intro w2 h2
    have H2 := Lib.hid h2
    clear h2
    go_wp2_with fail
    go_ret
    exact ⟨rfl, H2.out⟩
set_option maxRecDepth 100000 in
set_option maxHeartbeats 4000000 in
theorem core_yes (key c : ByteArray) (hk : (key.size : Int) ≤ 100) (hs : (c.size : Int) ≤ 96) (S : ByteArray)
    (c1 : Mak 25 #[.string key, .string c] (.tuple #[.string S, .int .i64 0])) (c2 : Mak 23 #[.string key, .string S] (.tuple #[.string c, .int .i64 0])) (w : World) :
    Calls Try.prog 8 #[.string key, .string c] w fun x w' => x = .returned (.bool true) ∧ Since w w' := by
  have H0 := Lib.hid (Since.refl w)
  have t1 : decide ((100 : Int) < (key.size : Int)) = false := decide_eq_false (by omega)
  have t3 : decide ((96 : Int) < (c.size : Int)) = false := decide_eq_false (by omega)
  go_enter Try.func8, Try.ntmps8
  go_wp2_with fail
  refine c1.calls H0.out ?_
  intro w1 h1
  have H1 := Lib.hid h1
  clear h1
  go_wp2_with fail
  refine c2.calls H1.out ?_
  intro w2 h2
  have H2 := Lib.hid h2
  clear h2
  go_wp2_with fail
  refine Pad.awake_mak.calls H2.out ?_
  intro w3 h3
  have H3 := Lib.hid h3
  clear h3
  go_wp2_with fail
  go_ret
  exact ⟨rfl, H3.out⟩
theorem walk (a0 a1 : ByteArray) (w0 : a0.size ≤ maxLen) (w1 : a1.size ≤ maxLen) (w : World) :
    Calls Try.prog 8 #[.string a0, .string a1] w fun e w' => e = .returned (.bool true) ∧ Below w.heap.size w w' := by
  unfold maxLen at w0 w1
  by_cases hl : a0.size ≤ 100 ∧ a1.size ≤ 96
  · obtain ⟨l0, l2⟩ := hl
    by_cases hk : keyOk a0
    · by_cases hs : RefPad.sizeOk a1.size
      · obtain ⟨V, P, hp⟩ : ∃ V P, (V, P) = RefPad.prt a0 a1 := ⟨_, _, rfl⟩
        by_cases h : ∃ m, says V (P.size : Int) m ∧ ∀ j, m ≤ j → j < P.size → P.data.toList.getD j 0 = 0
        · obtain ⟨m, hm, hz⟩ := h
          obtain ⟨r1, r2⟩ := pwK_again a0 a1 V P hs hp m hm hz
          have m1 := hm.1
          have m2 := hm.2.1
          exact core_yes a0 a1 (by omega) (by omega) _ (unwrap_good a0 a1 V P hk hs hp m hm hz _ rfl) (wrap_yes a0 _ hk (by omega) (by omega) a1 r1.symm) w
        · exact core_no a0 a1 (by omega) (by omega) 7 (by omega) (Pad.unwrap_sum a0 a1 V P hk hs hp (fun m h1 h2 => h ⟨m, h1, h2⟩)) w
      · exact core_no a0 a1 (by omega) (by omega) 4 (by omega) (unwrap_bad a0 a1 4 rfl (parts_nosize a0 a1 hk (by omega) hs)) w
    · exact core_no a0 a1 (by omega) (by omega) 2 (by omega) (unwrap_bad a0 a1 2 rfl (parts_bad a0 a1 (by omega) (by omega) hk)) w
  · have H0 := Lib.hid (Since.refl w)
    by_cases h0 : a0.size ≤ 100
    · have h2 : ¬ a1.size ≤ 96 := fun h => hl ⟨h0, h⟩
      clear hl
      go_enter Try.func8, Try.ntmps8
      go_wp2_with fail
      all_goals
        refine Pad.awake_mak.calls H0.out ?_
        intro w1 h1
        have H1 := Lib.hid h1
        clear h1
        go_wp2_with fail
        go_ret
        exact ⟨rfl, H1.out⟩
    · clear hl
      go_enter Try.func8, Try.ntmps8
      go_wp2_with fail
      all_goals
        refine Pad.awake_mak.calls H0.out ?_
        intro w1 h1
        have H1 := Lib.hid h1
        clear h1
        go_wp2_with fail
        go_ret
        exact ⟨rfl, H1.out⟩

theorem own : ownKnob Try.prog.godebug = none := by kernel_rfl

set_option maxRecDepth 100000 in
theorem lifted (os : Os) (started : os.Started) (H : Type) (enc : TypeId × Value → H) :
    ReturnsInHanded {} Try.checked os 8 .any (Rows.padwrapOneSpec.pre6 enc Try.prog Try.f8 Rows.padwrapOneRow.domain false) (Rows.padwrapOneSpec.post enc Try.prog Try.f8 false true false false) := by
  refine returnsInHanded_of_change (C := Try.checked) own started (by kernel_rfl) Try.func8
    (ChangeSpec.witness6 (enc := enc) (C := Try.checked) false ⟨#[], #[.string ⟨#[]⟩, .string ⟨#[]⟩], []⟩ 8 (by kernel_rfl) (by kernel_rfl) (by kernel_rfl) (by kernel_rfl)) ?_
  intro W base args ds gs before hval0 hW hcnd _
  have hval : ∀ (j : Nat) t v, Try.f8.params[j]? = some t → args[j]? = some v → Value.okWide Try.prog W .any base t v := hval0
  have hW' := hW
  obtain ⟨p, q, hA0, hV, rfl, hfz, hnd⟩ := hW
  have hA : DataW.TrodAll enc Try.prog W 0 (fun _ => true) true Try.f8.params.toList args.toList ds p := hA0
  rw [Try.params8] at hA hval
  obtain ⟨v0, vs0, d0, ds0, p0, q0, hargs, rfl, rfl, h0, r0⟩ := trodAll_cons hA
  obtain ⟨v1, vs1, d1, ds1, p1, q1, rfl, rfl, rfl, h1, r1⟩ := trodAll_cons r0
  obtain ⟨rfl, rfl, rfl⟩ := trodAll_nil r1
  obtain rfl : args = #[v0, v1] := by cases args; simp_all
  obtain ⟨rfl, rfl⟩ := trodVars_none hV
  obtain ⟨a0, rfl, rfl, rfl, w0⟩ := Go.ChangeMaps.open_string Try.underlying9 (hval 0 9 v0 rfl rfl) h0
  obtain ⟨a1, rfl, rfl, rfl, w1⟩ := Go.ChangeMaps.open_string Try.underlying9 (hval 1 9 v1 rfl rfl) h1
  clear hA0 hval0
  simp only [List.append_nil] at hW'
  refine (walk a0 a1 w0 w1 W).mono fun e W' ⟨he, hg⟩ => ?_
  subst he
  exact ⟨_, rfl, _, _, _, _, _, [], hW', (trodAll_cons_mk (shut_bool Try.underlying4 _) trodAll_mk0), (trodAll_cons_mk (Go.ChangeMaps.shut_string Try.underlying9 w0) (trodAll_cons_mk (Go.ChangeMaps.shut_string Try.underlying9 w1) trodAll_mk0)), rfl, hg.frame _, fun h => by cases h⟩

theorem over : Rows.padwrapOneRow.holds Try.pinned (OpenSpec.ofChange Rows.padwrapOneSpec) :=
  OpenClaim.holds_of_wide 8 Try.f8 rfl rfl rfl rfl rfl rfl rfl ⟨rfl, rfl, rfl, rfl, rfl⟩ rfl rfl rfl rfl rfl (by kernel_rfl) Try.func8 (by kernel_rfl)
    (of_decide_eq_true (by kernel_rfl)) (by unfold Func.isWrapper; first | (rw [if_pos (by decide +kernel)]; kernel_rfl) | (rw [if_neg (by decide +kernel)]; exact ⟨rfl, rfl⟩))
    (fun os started H enc _ => lifted os started H enc)

theorem proved : Rows.PadwrapOneSaid :=
  over

end Go.Proofs.Ytefoonegobcoaaa.padwrapOne
