/- The law SchedTells: any key's words, the keys of its rounds, or why there are none, are as the document says; no conditions. -/
import Derived.Test.YtoblmddnefmpoaaRows
import Derived.WalkKit
import Derived.ProofKit
import Derived.OpenShut
import Derived.Lib.Hide
import Derived.Test.YtoblmddnefmpoaaSchedAwake
namespace Go.Proofs.Ytoblmddnefmpoaa.schedTells
open Go.ChangeShapes Go.WideShapes Go.ChangeAt Go.RowKit
open Sched (MakE)

set_option maxRecDepth 100000 in
set_option maxHeartbeats 4000000 in
theorem core (key : ByteArray) (n : Int) (hs : (key.size : Int) ≤ 100) (ks ws : List ByteArray) (e r : Int) (c : Int)
    (c1 : MakE 42 #[.string key] ks e) (c2 : MakE 43 #[.string key] ks e) (c3 : Ret 44 #[.int .i64 n] (.int .i64 r)) (c4 : Ret 45 #[.int .i64 n] (.int .i64 r))
    (c5 : Ret 46 #[.int .i64 n] (.int .u8 c)) (c6 : Ret 47 #[.int .i64 n] (.int .u8 c)) (c7 : MakS 49 #[.string key] ws) (c8 : MakS 50 #[.string key] ws) (w : World) :
    Calls Try.prog 9 #[.string key, .int .i64 n] w fun x w' => x = .returned (.bool true) ∧ Since w w' := by
  have H0 := Lib.hid (Since.refl w)
  go_enter Try.func9, Try.ntmps9
  go_wp2_with fail
  refine c1.calls H0.out ?_
  intro v1 w1 ho1 hb1 h1
  have H1 := Lib.hid h1
  clear h1
  have Ho1 := Lib.hid ho1
  clear ho1
  clear hb1
  go_wp2_with fail
  refine c2.calls H1.out ?_
  intro v2 w2 ho2 hb2 h2
  have g1 := Lib.hid (Ho1.out.below hb2)
  have H2 := Lib.hid h2
  clear h2
  have Ho2 := Lib.hid ho2
  clear ho2
  clear hb2
  go_wp2_with fail
  refine (c3).calls ?_
  go_wp2_with fail
  refine (c4).calls ?_
  go_wp2_with fail
  refine (c5).calls ?_
  go_wp2_with fail
  refine (c6).calls ?_
  go_wp2_with fail
  refine c7.calls H2.out ?_
  intro v3 w3 ho3 hb3 h3
  have g3 := Strs.read ho3
  have g1 := Lib.hid (g1.out.below hb3)
  have g2 := Lib.hid (Ho2.out.below hb3)
  have H3 := Lib.hid h3
  clear h3
  have H_g3 := Lib.hid g3
  clear g3
  clear hb3 ho3
  go_wp2_with fail
  refine c8.calls H3.out ?_
  intro v4 w4 ho4 hb4 h4
  have g4 := Lib.hid (Strs.read ho4)
  have g1 := Lib.hid (g1.out.below hb4)
  have g2 := Lib.hid (g2.out.below hb4)
  have g3 := Lib.hid (H_g3.out.below hb4)
  have H4 := Lib.hid h4
  clear h4
  clear hb4 ho4
  go_wp2_with fail
  refine (equal_strs w4 v3 v4 _ _ g3.out g4.out true (by simp)).mono ?_
  rintro x w5 ⟨rfl, h5⟩
  have g1 := Lib.hid (g1.out.below h5)
  have g2 := Lib.hid (g2.out.below h5)
  have H5 := Lib.hid (Since.step H4.out h5)
  clear h5
  go_wp2_with fail
  refine (equal_strs w5 v1 v2 _ _ g1.out g2.out true (by simp)).mono ?_
  rintro x w6 ⟨rfl, h6⟩
  have H6 := Lib.hid (Since.step H5.out h6)
  clear h6
  go_wp2_with fail
  refine Sched.awake_mak.calls H6.out ?_
  intro w7 h7
  have H7 := Lib.hid h7
  clear h7
  go_wp2_with fail
  go_ret
  exact ⟨rfl, H7.out⟩
theorem walk (a0 : ByteArray) (a1 : Int) (w0 : a0.size ≤ maxLen) (w1 : (Lit.int .i64 a1).wf = true) (w : World) :
    Calls Try.prog 9 #[.string a0, .int .i64 a1] w fun e w' => e = .returned (.bool true) ∧ Below w.heap.size w w' := by
  unfold maxLen at w0
  by_cases hl : a0.size ≤ 100
  · obtain ⟨r, q3, q4⟩ : ∃ r, Ret 44 #[.int .i64 a1] (.int .i64 r) ∧ Ret 45 #[.int .i64 a1] (.int .i64 r) := by
      by_cases h : a1 = 16 ∨ a1 = 24 ∨ a1 = 32
      · obtain ⟨m, rfl⟩ := Int.eq_ofNat_of_zero_le (show 0 ≤ a1 by omega)
        exact ⟨_, Sched.rounds_yes m (by omega) _ rfl, RefSched.rounds_yes m (by omega) _ rfl⟩
      · exact ⟨0, Sched.rounds_no a1 (by omega), RefSched.rounds_no a1 (by omega)⟩
    by_cases h : a0.size = 16 ∨ a0.size = 24 ∨ a0.size = 32
    · obtain ⟨n, hn⟩ : ∃ n, n = a0.size / 4 := ⟨_, rfl⟩
      have hn1 : n = 4 ∨ n = 6 ∨ n = 8 := by omega
      have hk : a0.size = 4 * n := by omega
      exact core a0 a1 (by omega) _ _ 0 r _ (Sched.keys_yes a0 n hn1 hk) (RefSched.keys_yes a0 n hn1 hk) q3 q4 (Sched.const_any a1 _ rfl) (RefSched.const_any a1 _ rfl) (Sched.words_mak a0 n hn1 hk) (RefSched.words_mak a0 n hn1 hk) w
    · exact core a0 a1 (by omega) [] [] 2 r _ (Sched.MakE.nil (Sched.keys_no a0 (by omega) (by omega))) (Sched.MakE.nil (RefSched.keys_no a0 (by omega) (by omega))) q3 q4 (Sched.const_any a1 _ rfl) (RefSched.const_any a1 _ rfl) (Sched.MakS.nil (Sched.words_no a0 (by omega) (by omega))) (Sched.MakS.nil (RefSched.words_no a0 (by omega) (by omega))) w
  · have H0 := Lib.hid (Since.refl w)
    go_enter Try.func9, Try.ntmps9
    go_wp2_with fail
    refine Sched.awake_mak.calls H0.out ?_
    intro w1 h1
    have H1 := Lib.hid h1
    clear h1
    go_wp2_with fail
    go_ret
    exact ⟨rfl, H1.out⟩

theorem own : ownKnob Try.prog.godebug = none := by kernel_rfl

set_option maxRecDepth 100000 in
theorem lifted (os : Os) (started : os.Started) (H : Type) (enc : TypeId × Value → H) :
    ReturnsInHanded {} Try.checked os 9 .any (Rows.schedTellsSpec.pre6 enc Try.prog Try.f9 Rows.schedTellsRow.domain false) (Rows.schedTellsSpec.post enc Try.prog Try.f9 false true false false) := by
  refine returnsInHanded_of_change (C := Try.checked) own started (by kernel_rfl) Try.func9
    (ChangeSpec.witness6 (enc := enc) (C := Try.checked) false ⟨#[], #[.string ⟨#[]⟩, .int .i64 0], []⟩ 8 (by kernel_rfl) (by kernel_rfl) (by kernel_rfl) (by kernel_rfl)) ?_
  intro W base args ds gs before hval0 hW hcnd _
  have hval : ∀ (j : Nat) t v, Try.f9.params[j]? = some t → args[j]? = some v → Value.okWide Try.prog W .any base t v := hval0
  have hW' := hW
  obtain ⟨p, q, hA0, hV, rfl, hfz, hnd⟩ := hW
  have hA : DataW.TrodAll enc Try.prog W 0 (fun _ => true) true Try.f9.params.toList args.toList ds p := hA0
  rw [Try.params9] at hA hval
  obtain ⟨v0, vs0, d0, ds0, p0, q0, hargs, rfl, rfl, h0, r0⟩ := trodAll_cons hA
  obtain ⟨v1, vs1, d1, ds1, p1, q1, rfl, rfl, rfl, h1, r1⟩ := trodAll_cons r0
  obtain ⟨rfl, rfl, rfl⟩ := trodAll_nil r1
  obtain rfl : args = #[v0, v1] := by cases args; simp_all
  obtain ⟨rfl, rfl⟩ := trodVars_none hV
  obtain ⟨a0, rfl, rfl, rfl, w0⟩ := Go.ChangeMaps.open_string Try.underlying9 (hval 0 9 v0 rfl rfl) h0
  obtain ⟨a1, rfl, rfl, rfl, w1⟩ := open_int Try.underlying3 (hval 1 3 v1 rfl rfl) h1
  clear hA0 hval0
  simp only [List.append_nil] at hW'
  refine (walk a0 a1 w0 w1 W).mono fun e W' ⟨he, hg⟩ => ?_
  subst he
  exact ⟨_, rfl, _, _, _, _, _, [], hW', (trodAll_cons_mk (shut_bool Try.underlying4 _) trodAll_mk0), (trodAll_cons_mk (Go.ChangeMaps.shut_string Try.underlying9 w0) (trodAll_cons_mk (shut_int Try.underlying3 w1) trodAll_mk0)), rfl, hg.frame _, fun h => by cases h⟩

theorem over : Rows.schedTellsRow.holds Try.pinned (OpenSpec.ofChange Rows.schedTellsSpec) :=
  OpenClaim.holds_of_wide 9 Try.f9 rfl rfl rfl rfl rfl rfl rfl ⟨rfl, rfl, rfl, rfl, rfl⟩ rfl rfl rfl rfl rfl (by kernel_rfl) Try.func9 (by kernel_rfl)
    (of_decide_eq_true (by kernel_rfl)) (by unfold Func.isWrapper; first | (rw [if_pos (by decide +kernel)]; kernel_rfl) | (rw [if_neg (by decide +kernel)]; exact ⟨rfl, rfl⟩))
    (fun os started H enc _ => lifted os started H enc)

theorem proved : Rows.SchedTellsSaid :=
  over

end Go.Proofs.Ytoblmddnefmpoaa.schedTells
