/- The law WholeBig: for all bytes and every number, Big, Unbig and Wide answer as the reference does; no conditions. -/
import Derived.Test.YtlcicpdnakmdnaaRows
import Derived.WalkKit
import Derived.ProofKit
import Derived.OpenShut
import Derived.Lib.Hide
import Derived.Test.YtlcicpdnakmdnaaWhole2
namespace Go.Proofs.Ytlcicpdnakmdnaa.wholeBig
open Go.ChangeShapes Go.WideShapes Go.ChangeAt Go.RowKit

set_option maxRecDepth 100000 in
set_option maxHeartbeats 2000000 in
theorem core (s : ByteArray) (n : Int) (hs : s.size ≤ 200) (X Y Z : ByteArray) (k f : Bool)
    (c1 : Mak 23 #[.string s] (.tuple #[.string X, .bool k])) (c2 : Ret 24 #[.string s] (.tuple #[.string X, .bool k]))
    (c3 : Mak 25 #[.string s, .int .i64 n] (.tuple #[.string Y, .bool f])) (c4 : Mak 26 #[.string s, .int .i64 n] (.tuple #[.string Y, .bool f]))
    (c5 : Mak 27 #[.string s] (.string Z)) (c6 : Ret 28 #[.string s] (.string Z)) (w : World) :
    Calls Try.prog 7 #[.string s, .int .i64 n] w fun e w' => e = .returned (.bool true) ∧ Since w w' := by
  have H0 := Lib.hid (Since.refl w)
  have bk : (k == k) = true := by simp
  have bf : (f == f) = true := by simp
  go_enter Try.func7, Try.ntmps7
  go_wp2_with fail
  refine (c1).calls H0.out ?_
  intro w1 h1
  have H1 := Lib.hid h1
  clear h1
  go_wp2_with fail
  refine (c2).calls ?_
  go_wp2_with fail
  refine (c3).calls H1.out ?_
  intro w2 h2
  have H2 := Lib.hid h2
  clear h2
  go_wp2_with fail
  refine (c4).calls H2.out ?_
  intro w3 h3
  have H3 := Lib.hid h3
  clear h3
  go_wp2_with fail
  refine (c5).calls H3.out ?_
  intro w4 h4
  have H4 := Lib.hid h4
  clear h4
  go_wp2_with fail
  refine (c6).calls ?_
  go_wp2_with fail
  refine (Whole.awake_mak).calls H4.out ?_
  intro w5 h5
  have H5 := Lib.hid h5
  clear h5
  go_wp2_with fail
  go_ret
  exact ⟨rfl, H5.out⟩

theorem walk (a0 : ByteArray) (a1 : Int) (w0 : a0.size ≤ maxLen) (w1 : (Lit.int .i64 a1).wf = true) (w : World) :
    Calls Try.prog 7 #[.string a0, .int .i64 a1] w fun e w' => e = .returned (.bool true) ∧ Below w.heap.size w w' := by
  have t1 := i64_of_wf w1
  unfold maxLen at w0
  by_cases hs : a0.size ≤ 200
  · obtain ⟨d1, d2⟩ := Whole.wide_both a0 a1 (by omega) t1 _ _ rfl rfl
    exact core a0 a1 hs _ _ _ _ _ (Whole.unbig_mak a0 (by omega) _ _ rfl rfl) (Whole.runbig_ret a0 (by omega) _ _ rfl rfl) d1 d2 (Whole.big_mak a0 (by omega) _ rfl) (Whole.rbig_ret a0 (by omega) _ rfl) w
  · have H0 := Lib.hid (Since.refl w)
    clear t1
    go_enter Try.func7, Try.ntmps7
    go_wp2_with fail
    all_goals
      refine (Whole.awake_mak).calls H0.out ?_
      intro w3 h3
      have H3 := Lib.hid h3
      clear h3
      go_wp2_with fail
      go_ret
      exact ⟨rfl, H3.out⟩

theorem own : ownKnob Try.prog.godebug = none := by kernel_rfl

set_option maxRecDepth 100000 in
theorem lifted (os : Os) (started : os.Started) (H : Type) (enc : TypeId × Value → H) :
    ReturnsInHanded {} Try.checked os 7 .any (Rows.wholeBigSpec.pre6 enc Try.prog Try.f7 Rows.wholeBigRow.domain false) (Rows.wholeBigSpec.post enc Try.prog Try.f7 false true false false) := by
  refine returnsInHanded_of_change (C := Try.checked) own started (by kernel_rfl) Try.func7
    (ChangeSpec.witness6 (enc := enc) (C := Try.checked) false ⟨#[], #[.string ⟨#[]⟩, .int .i64 0], []⟩ 8 (by kernel_rfl) (by kernel_rfl) (by kernel_rfl) (by kernel_rfl)) ?_
  intro W base args ds gs before hval0 hW hcnd _
  have hval : ∀ (j : Nat) t v, Try.f7.params[j]? = some t → args[j]? = some v → Value.okWide Try.prog W .any base t v := hval0
  have hW' := hW
  obtain ⟨p, q, hA0, hV, rfl, hfz, hnd⟩ := hW
  have hA : DataW.TrodAll enc Try.prog W 0 (fun _ => true) true Try.f7.params.toList args.toList ds p := hA0
  rw [Try.params7] at hA hval
  obtain ⟨v0, vs0, d0, ds0, p0, q0, hargs, rfl, rfl, h0, r0⟩ := trodAll_cons hA
  obtain ⟨v1, vs1, d1, ds1, p1, q1, rfl, rfl, rfl, h1, r1⟩ := trodAll_cons r0
  obtain ⟨rfl, rfl, rfl⟩ := trodAll_nil r1
  obtain rfl : args = #[v0, v1] := by cases args; simp_all
  obtain ⟨rfl, rfl⟩ := trodVars_none hV
  obtain ⟨a0, rfl, rfl, rfl, w0⟩ := Go.ChangeMaps.open_string Try.underlying9 (hval 0 9 v0 rfl rfl) h0
  obtain ⟨a1, rfl, rfl, rfl, w1⟩ := open_int Try.underlying3 (hval 1 3 v1 rfl rfl) h1
  clear hA0 hval0
  simp only [List.append_nil] at hW'
  refine (walk a0 a1 w0 w1 W).mono fun e W' ⟨he, hg⟩ => ?_
  subst he
  exact ⟨_, rfl, _, _, _, _, _, [], hW', (trodAll_cons_mk (shut_bool Try.underlying4 _) trodAll_mk0), (trodAll_cons_mk (Go.ChangeMaps.shut_string Try.underlying9 w0) (trodAll_cons_mk (shut_int Try.underlying3 w1) trodAll_mk0)), rfl, hg.frame _, fun h => by cases h⟩

theorem over : Rows.wholeBigRow.holds Try.pinned (OpenSpec.ofChange Rows.wholeBigSpec) :=
  OpenClaim.holds_of_wide 7 Try.f7 rfl rfl rfl rfl rfl rfl rfl ⟨rfl, rfl, rfl, rfl, rfl⟩ rfl rfl rfl rfl rfl (by kernel_rfl) Try.func7 (by kernel_rfl)
    (of_decide_eq_true (by kernel_rfl)) (by unfold Func.isWrapper; first | (rw [if_pos (by decide +kernel)]; kernel_rfl) | (rw [if_neg (by decide +kernel)]; exact ⟨rfl, rfl⟩))
    (fun os started H enc _ => lifted os started H enc)

theorem proved : Rows.WholeBigSaid :=
  over

end Go.Proofs.Ytlcicpdnakmdnaa.wholeBig
