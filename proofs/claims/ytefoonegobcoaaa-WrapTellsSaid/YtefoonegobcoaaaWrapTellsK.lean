/- The law WrapTells: any text wrapped and unwrapped, or why not, is as the document says; no conditions. -/
import Derived.Test.YtefoonegobcoaaaRows
import Derived.WalkKit
import Derived.ProofKit
import Derived.OpenShut
import Derived.Lib.Hide
import Derived.Test.YtefoonegobcoaaaPk35
namespace Go.Proofs.Ytefoonegobcoaaa.wrapTells
open Go.ChangeShapes Go.WideShapes Go.ChangeAt Go.RowKit
open Aes Wrap

set_option maxRecDepth 100000 in
set_option maxHeartbeats 4000000 in
theorem core (key iv s : ByteArray) (n : Int) (hk : (key.size : Int) ≤ 100) (hi : (iv.size : Int) ≤ 100) (hs : (s.size : Int) ≤ 96) (A X Y D U : ByteArray) (e g i o x : Int)
    (c1 : Mak 10 #[.string key, .string iv, .string s] (.tuple #[.string A, .int .i64 e])) (c2 : Mak 11 #[.string key, .string iv, .string s] (.tuple #[.string A, .int .i64 e]))
    (c3 : Mak 12 #[.string key, .string s] (.tuple #[.string X, .string Y, .int .i64 g])) (c4 : Mak 13 #[.string key, .string s] (.tuple #[.string X, .string Y, .int .i64 g]))
    (c5 : Mak 14 #[.string key, .string s] (.tuple #[.string D, .int .i64 i])) (c6 : Mak 15 #[.string key, .string s] (.tuple #[.string D, .int .i64 i]))
    (c7 : Mak 16 #[.string key, .string s] (.tuple #[.string U, .int .i64 o])) (c8 : Mak 17 #[.string key, .string s] (.tuple #[.string U, .int .i64 o]))
    (c9 : Ret 18 #[.int .i64 n] (.int .i64 x)) (c10 : Ret 19 #[.int .i64 n] (.int .i64 x)) (w : World) :
    Calls Try.prog 3 #[.string key, .string iv, .string s, .int .i64 n] w fun x w' => x = .returned (.bool true) ∧ Since w w' := by
  have H0 := Lib.hid (Since.refl w)
  have t1 : decide ((100 : Int) < (key.size : Int)) = false := decide_eq_false (by omega)
  have t2 : decide ((100 : Int) < (iv.size : Int)) = false := decide_eq_false (by omega)
  have t3 : decide ((96 : Int) < (s.size : Int)) = false := decide_eq_false (by omega)
  have v1 := value_ret
  have v2 := RefWrap.value_ret
  go_enter Try.func3, Try.ntmps3
  go_wp2_with fail
  refine c1.calls H0.out ?_
  intro w1 h1
  have H1 := Lib.hid h1
  clear h1
  go_wp2_with fail
  refine c2.calls H1.out ?_
  intro w2 h2
  have H2 := Lib.hid h2
  clear h2
  go_wp2_with fail
  refine c3.calls H2.out ?_
  intro w3 h3
  have H3 := Lib.hid h3
  clear h3
  go_wp2_with fail
  refine c4.calls H3.out ?_
  intro w4 h4
  have H4 := Lib.hid h4
  clear h4
  go_wp2_with fail
  refine c5.calls H4.out ?_
  intro w5 h5
  have H5 := Lib.hid h5
  clear h5
  go_wp2_with fail
  refine c6.calls H5.out ?_
  intro w6 h6
  have H6 := Lib.hid h6
  clear h6
  go_wp2_with fail
  refine c7.calls H6.out ?_
  intro w7 h7
  have H7 := Lib.hid h7
  clear h7
  go_wp2_with fail
  refine c8.calls H7.out ?_
  intro w8 h8
  have H8 := Lib.hid h8
  clear h8
  go_wp2_with fail
  refine (c9).calls ?_
  go_wp2_with fail
  refine (c10).calls ?_
  go_wp2_with fail
  refine (v1).calls ?_
  go_wp2_with fail
  refine (v2).calls ?_
  go_wp2_with fail
  refine Wrap.awake_mak.calls H8.out ?_
  intro w9 h9
  have H9 := Lib.hid h9
  clear h9
  go_wp2_with fail
  go_ret
  exact ⟨rfl, H9.out⟩
theorem walk (a0 a1 a2 : ByteArray) (a3 : Int) (w0 : a0.size ≤ maxLen) (w1 : a1.size ≤ maxLen) (w2 : a2.size ≤ maxLen) (_w3 : (Lit.int .i64 a3).wf = true) (w : World) :
    Calls Try.prog 3 #[.string a0, .string a1, .string a2, .int .i64 a3] w fun e w' => e = .returned (.bool true) ∧ Below w.heap.size w w' := by
  unfold maxLen at w0 w1 w2
  by_cases hl : a0.size ≤ 100 ∧ a1.size ≤ 100 ∧ a2.size ≤ 96
  · obtain ⟨l0, l1, l2⟩ := hl
    obtain ⟨A, e, c1, c2⟩ := raw_both a0 a1 a2 (by omega)
    obtain ⟨X, Y, g, c3, c4⟩ := unraw_both a0 a2 (by omega) (by omega)
    obtain ⟨D, i, c5, c6⟩ := wrap_both a0 a2 (by omega)
    obtain ⟨U, o, c7, c8⟩ := unwrap_both a0 a2 (by omega) (by omega)
    obtain ⟨x, c9, c10⟩ := steps_both a3
    exact core a0 a1 a2 a3 (by omega) (by omega) (by omega) A X Y D U e g i o x c1 c2 c3 c4 c5 c6 c7 c8 c9 c10 w
  · have H0 := Lib.hid (Since.refl w)
    by_cases h0 : a0.size ≤ 100
    · by_cases h1 : a1.size ≤ 100
      · have h2 : ¬ a2.size ≤ 96 := fun h => hl ⟨h0, h1, h⟩
        clear hl
        go_enter Try.func3, Try.ntmps3
        go_wp2_with fail
        all_goals
          refine Wrap.awake_mak.calls H0.out ?_
          intro w1 h1
          have H1 := Lib.hid h1
          clear h1
          go_wp2_with fail
          go_ret
          exact ⟨rfl, H1.out⟩
      · clear hl
        go_enter Try.func3, Try.ntmps3
        go_wp2_with fail
        all_goals
          refine Wrap.awake_mak.calls H0.out ?_
          intro w1 h1
          have H1 := Lib.hid h1
          clear h1
          go_wp2_with fail
          go_ret
          exact ⟨rfl, H1.out⟩
    · clear hl
      go_enter Try.func3, Try.ntmps3
      go_wp2_with fail
      all_goals
        refine Wrap.awake_mak.calls H0.out ?_
        intro w1 h1
        have H1 := Lib.hid h1
        clear h1
        go_wp2_with fail
        go_ret
        exact ⟨rfl, H1.out⟩

theorem own : ownKnob Try.prog.godebug = none := by kernel_rfl

set_option maxRecDepth 100000 in
theorem lifted (os : Os) (started : os.Started) (H : Type) (enc : TypeId × Value → H) :
    ReturnsInHanded {} Try.checked os 3 .any (Rows.wrapTellsSpec.pre6 enc Try.prog Try.f3 Rows.wrapTellsRow.domain false) (Rows.wrapTellsSpec.post enc Try.prog Try.f3 false true false false) := by
  refine returnsInHanded_of_change (C := Try.checked) own started (by kernel_rfl) Try.func3
    (ChangeSpec.witness6 (enc := enc) (C := Try.checked) false ⟨#[], #[.string ⟨#[]⟩, .string ⟨#[]⟩, .string ⟨#[]⟩, .int .i64 0], []⟩ 8 (by kernel_rfl) (by kernel_rfl) (by kernel_rfl) (by kernel_rfl)) ?_
  intro W base args ds gs before hval0 hW hcnd _
  have hval : ∀ (j : Nat) t v, Try.f3.params[j]? = some t → args[j]? = some v → Value.okWide Try.prog W .any base t v := hval0
  have hW' := hW
  obtain ⟨p, q, hA0, hV, rfl, hfz, hnd⟩ := hW
  have hA : DataW.TrodAll enc Try.prog W 0 (fun _ => true) true Try.f3.params.toList args.toList ds p := hA0
  rw [Try.params3] at hA hval
  obtain ⟨v0, vs0, d0, ds0, p0, q0, hargs, rfl, rfl, h0, r0⟩ := trodAll_cons hA
  obtain ⟨v1, vs1, d1, ds1, p1, q1, rfl, rfl, rfl, h1, r1⟩ := trodAll_cons r0
  obtain ⟨v2, vs2, d2, ds2, p2, q2, rfl, rfl, rfl, h2, r2⟩ := trodAll_cons r1
  obtain ⟨v3, vs3, d3, ds3, p3, q3, rfl, rfl, rfl, h3, r3⟩ := trodAll_cons r2
  obtain ⟨rfl, rfl, rfl⟩ := trodAll_nil r3
  obtain rfl : args = #[v0, v1, v2, v3] := by cases args; simp_all
  obtain ⟨rfl, rfl⟩ := trodVars_none hV
  obtain ⟨a0, rfl, rfl, rfl, w0⟩ := Go.ChangeMaps.open_string Try.underlying9 (hval 0 9 v0 rfl rfl) h0
  obtain ⟨a1, rfl, rfl, rfl, w1⟩ := Go.ChangeMaps.open_string Try.underlying9 (hval 1 9 v1 rfl rfl) h1
  obtain ⟨a2, rfl, rfl, rfl, w2⟩ := Go.ChangeMaps.open_string Try.underlying9 (hval 2 9 v2 rfl rfl) h2
  obtain ⟨a3, rfl, rfl, rfl, w3⟩ := open_int Try.underlying3 (hval 3 3 v3 rfl rfl) h3
  clear hA0 hval0
  simp only [List.append_nil] at hW'
  refine (walk a0 a1 a2 a3 w0 w1 w2 w3 W).mono fun e W' ⟨he, hg⟩ => ?_
  subst he
  exact ⟨_, rfl, _, _, _, _, _, [], hW', (trodAll_cons_mk (shut_bool Try.underlying4 _) trodAll_mk0), (trodAll_cons_mk (Go.ChangeMaps.shut_string Try.underlying9 w0) (trodAll_cons_mk (Go.ChangeMaps.shut_string Try.underlying9 w1) (trodAll_cons_mk (Go.ChangeMaps.shut_string Try.underlying9 w2) (trodAll_cons_mk (shut_int Try.underlying3 w3) trodAll_mk0)))), rfl, hg.frame _, fun h => by cases h⟩

theorem over : Rows.wrapTellsRow.holds Try.pinned (OpenSpec.ofChange Rows.wrapTellsSpec) :=
  OpenClaim.holds_of_wide 3 Try.f3 rfl rfl rfl rfl rfl rfl rfl ⟨rfl, rfl, rfl, rfl, rfl⟩ rfl rfl rfl rfl rfl (by kernel_rfl) Try.func3 (by kernel_rfl)
    (of_decide_eq_true (by kernel_rfl)) (by unfold Func.isWrapper; first | (rw [if_pos (by decide +kernel)]; kernel_rfl) | (rw [if_neg (by decide +kernel)]; exact ⟨rfl, rfl⟩))
    (fun os started H enc _ => lifted os started H enc)

theorem proved : Rows.WrapTellsSaid :=
  over

end Go.Proofs.Ytefoonegobcoaaa.wrapTells
