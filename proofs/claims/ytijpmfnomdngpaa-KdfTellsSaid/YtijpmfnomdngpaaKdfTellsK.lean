/- The law KdfTells: any key out of any key, or why there is none, is what the document says; no conditions. -/
import Derived.Test.YtijpmfnomdngpaaRows
import Derived.WalkKit
import Derived.ProofKit
import Derived.OpenShut
import Derived.Lib.Hide
import Derived.Test.YtijpmfnomdngpaaPk35
namespace Go.Proofs.Ytijpmfnomdngpaa.kdfTells
open Go.ChangeShapes Go.WideShapes Go.ChangeAt Go.RowKit
open Aes Cmac Kdf

set_option maxRecDepth 100000 in
set_option maxHeartbeats 4000000 in
theorem core (key fixed ctx : ByteArray) (n : Int) (hk : (key.size : Int) ≤ 100) (hf : (fixed.size : Int) ≤ 100) (hc : (ctx.size : Int) ≤ 100) (hn : (decide ((100 : Int) < n) = false) ∨ (decide ((100 : Int) < n) = true ∧ decide (n ≤ 4080) = false)) (A F : ByteArray) (e x : Int)
    (c1 : Mak 45 #[.string key, .string fixed, .int .i64 n] (.tuple #[.string A, .int .i64 e])) (c2 : Mak 46 #[.string key, .string fixed, .int .i64 n] (.tuple #[.string A, .int .i64 e]))
    (c3 : Ret 42 #[.int .i64 n] (.int .i64 x)) (c4 : Ret 43 #[.int .i64 n] (.int .i64 x))
    (c5 : Mak 47 #[.string fixed, .string ctx, .int .i64 n] (.string F)) (c6 : Mak 48 #[.string fixed, .string ctx, .int .i64 n] (.string F)) (w : World) :
    Calls Try.prog 11 #[.string key, .string fixed, .string ctx, .int .i64 n] w fun x w' => x = .returned (.bool true) ∧ Since w w' := by
  have H0 := Lib.hid (Since.refl w)
  have t1 : decide ((100 : Int) < (key.size : Int)) = false := decide_eq_false (by omega)
  have t2 : decide ((100 : Int) < (fixed.size : Int)) = false := decide_eq_false (by omega)
  have t3 : decide ((100 : Int) < (ctx.size : Int)) = false := decide_eq_false (by omega)
  rcases hn with hn | ⟨hn, hn2⟩
  all_goals
    go_enter Try.func11, Try.ntmps11
    go_wp2_with fail
    refine c1.calls H0.out ?_
    intro w1 h1
    have H1 := Lib.hid h1
    clear h1
    go_wp2_with fail
    refine c2.calls H1.out ?_
    intro w2 h2
    have H2 := Lib.hid h2
    clear h2
    go_wp2_with fail
    refine (c3).calls ?_
    go_wp2_with fail
    refine (c4).calls ?_
    go_wp2_with fail
    refine c5.calls H2.out ?_
    intro w3 h3
    have H3 := Lib.hid h3
    clear h3
    go_wp2_with fail
    refine c6.calls H3.out ?_
    intro w4 h4
    have H4 := Lib.hid h4
    clear h4
    go_wp2_with fail
    refine awake_mak.calls H4.out ?_
    intro w5 h5
    have H5 := Lib.hid h5
    clear h5
    go_wp2_with fail
    go_ret
    exact ⟨rfl, H5.out⟩
set_option maxRecDepth 100000 in
set_option maxHeartbeats 4000000 in
theorem core_big (key fixed ctx : ByteArray) (n : Int) (hb : 100 < key.size ∨ 100 < fixed.size ∨ 100 < ctx.size ∨ 100 < n ∧ n ≤ 4080) (x : Int)
    (c3 : Ret 42 #[.int .i64 n] (.int .i64 x)) (c4 : Ret 43 #[.int .i64 n] (.int .i64 x)) (w : World) :
    Calls Try.prog 11 #[.string key, .string fixed, .string ctx, .int .i64 n] w fun x w' => x = .returned (.bool true) ∧ Since w w' := by
  have H0 := Lib.hid (Since.refl w)
  by_cases h1 : 100 < key.size
  · have t1 : decide ((100 : Int) < (key.size : Int)) = true := decide_eq_true (by omega)
    clear hb h1
    go_enter Try.func11, Try.ntmps11
    go_wp2_with fail
    refine (c3).calls ?_
    go_wp2_with fail
    refine (c4).calls ?_
    go_wp2_with fail
    refine awake_mak.calls H0.out ?_
    intro w1 h1
    have H1 := Lib.hid h1
    clear h1
    go_wp2_with fail
    go_ret
    exact ⟨rfl, H1.out⟩
  · have t1 : decide ((100 : Int) < (key.size : Int)) = false := decide_eq_false (by omega)
    by_cases h2 : 100 < fixed.size
    · have t2 : decide ((100 : Int) < (fixed.size : Int)) = true := decide_eq_true (by omega)
      clear hb h1 h2
      go_enter Try.func11, Try.ntmps11
      go_wp2_with fail
      refine (c3).calls ?_
      go_wp2_with fail
      refine (c4).calls ?_
      go_wp2_with fail
      refine awake_mak.calls H0.out ?_
      intro w1 h1
      have H1 := Lib.hid h1
      clear h1
      go_wp2_with fail
      go_ret
      exact ⟨rfl, H1.out⟩
    · have t2 : decide ((100 : Int) < (fixed.size : Int)) = false := decide_eq_false (by omega)
      by_cases h3 : 100 < ctx.size
      · have t3 : decide ((100 : Int) < (ctx.size : Int)) = true := decide_eq_true (by omega)
        clear hb h1 h2 h3
        go_enter Try.func11, Try.ntmps11
        go_wp2_with fail
        refine (c3).calls ?_
        go_wp2_with fail
        refine (c4).calls ?_
        go_wp2_with fail
        refine awake_mak.calls H0.out ?_
        intro w1 h1
        have H1 := Lib.hid h1
        clear h1
        go_wp2_with fail
        go_ret
        exact ⟨rfl, H1.out⟩
      · have t3 : decide ((100 : Int) < (ctx.size : Int)) = false := decide_eq_false (by omega)
        have t4 : decide ((100 : Int) < n) = true := decide_eq_true (by omega)
        have t5 : decide (n ≤ 4080) = true := decide_eq_true (by omega)
        clear hb h1 h2 h3
        go_enter Try.func11, Try.ntmps11
        go_wp2_with fail
        refine (c3).calls ?_
        go_wp2_with fail
        refine (c4).calls ?_
        go_wp2_with fail
        refine awake_mak.calls H0.out ?_
        intro w1 h1
        have H1 := Lib.hid h1
        clear h1
        go_wp2_with fail
        go_ret
        exact ⟨rfl, H1.out⟩
theorem both_rounds (n : Int) (hn : n ≤ 9223372036854775807) : ∃ x, Ret 42 #[.int .i64 n] (.int .i64 x) ∧ Ret 43 #[.int .i64 n] (.int .i64 x) := by
  by_cases h : n < 1 ∨ 4080 < n
  · exact ⟨0, rounds_ret n hn 0 (by rw [rndN, if_pos h]; rfl), RefKdf.rounds_no n h⟩
  · obtain ⟨m, rfl⟩ := Int.eq_ofNat_of_zero_le (show 0 ≤ n by omega)
    exact ⟨_, rounds_ret (m : Int) hn _ (by rw [rndN, if_neg h]; rfl), RefKdf.rounds_yes m _ (by omega) (by omega) rfl⟩
theorem walk (a0 a1 a2 : ByteArray) (a3 : Int) (w0 : a0.size ≤ maxLen) (w1 : a1.size ≤ maxLen) (w2 : a2.size ≤ maxLen) (w3 : (Lit.int .i64 a3).wf = true) (w : World) :
    Calls Try.prog 11 #[.string a0, .string a1, .string a2, .int .i64 a3] w fun e w' => e = .returned (.bool true) ∧ Below w.heap.size w w' := by
  unfold maxLen at w0 w1 w2
  have hu := i64_of_wf w3
  obtain ⟨x, q3, q4⟩ := both_rounds a3 hu.2
  by_cases hb : 100 < a0.size ∨ 100 < a1.size ∨ 100 < a2.size ∨ 100 < a3 ∧ a3 ≤ 4080
  · exact core_big a0 a1 a2 a3 hb x q3 q4 w
  · have hn : (decide ((100 : Int) < a3) = false) ∨ (decide ((100 : Int) < a3) = true ∧ decide (a3 ≤ 4080) = false) := by
      by_cases h : 100 < a3
      · exact Or.inr ⟨decide_eq_true h, decide_eq_false (by omega)⟩
      · exact Or.inl (decide_eq_false h)
    have q5 := Kdf.fixed_mak a1 a2 a3 hu (by omega) (by omega) _ rfl _ _ rfl rfl
    have q6 := RefKdf.fixed_mak a1 a2 a3 hu (by omega) (by omega) _ rfl _ _ rfl rfl
    by_cases hk : keyOk a0
    · by_cases h : a3 < 1 ∨ 4080 < a3
      · exact core a0 a1 a2 a3 (by omega) (by omega) (by omega) hn _ _ 4 x (Kdf.counter_nosize a0 a1 a3 hk hu.2 h) (RefKdf.counter_nosize a0 a1 a3 hk h).mak q3 q4 q5 q6 w
      · obtain ⟨m, rfl⟩ := Int.eq_ofNat_of_zero_le (show 0 ≤ a3 by omega)
        exact core a0 a1 a2 (m : Int) (by omega) (by omega) (by omega) hn _ _ 0 x (Kdf.counter_yes a0 a1 m hk (by omega) (by omega) (by omega) _ rfl) (RefKdf.counter_yes a0 a1 m hk (by omega) (by omega) (by omega) _ rfl) q3 q4 q5 q6 w
    · exact core a0 a1 a2 a3 (by omega) (by omega) (by omega) hn _ _ 2 x (Kdf.counter_nokey a0 a1 a3 (by omega) hk).mak (RefKdf.counter_nokey a0 a1 a3 (by omega) hk).mak q3 q4 q5 q6 w

theorem own : ownKnob Try.prog.godebug = none := by kernel_rfl

set_option maxRecDepth 100000 in
theorem lifted (os : Os) (started : os.Started) (H : Type) (enc : TypeId × Value → H) :
    ReturnsInHanded {} Try.checked os 11 .any (Rows.kdfTellsSpec.pre6 enc Try.prog Try.f11 Rows.kdfTellsRow.domain false) (Rows.kdfTellsSpec.post enc Try.prog Try.f11 false true false false) := by
  refine returnsInHanded_of_change (C := Try.checked) own started (by kernel_rfl) Try.func11
    (ChangeSpec.witness6 (enc := enc) (C := Try.checked) false ⟨#[], #[.string ⟨#[]⟩, .string ⟨#[]⟩, .string ⟨#[]⟩, .int .i64 0], []⟩ 8 (by kernel_rfl) (by kernel_rfl) (by kernel_rfl) (by kernel_rfl)) ?_
  intro W base args ds gs before hval0 hW hcnd _
  have hval : ∀ (j : Nat) t v, Try.f11.params[j]? = some t → args[j]? = some v → Value.okWide Try.prog W .any base t v := hval0
  have hW' := hW
  obtain ⟨p, q, hA0, hV, rfl, hfz, hnd⟩ := hW
  have hA : DataW.TrodAll enc Try.prog W 0 (fun _ => true) true Try.f11.params.toList args.toList ds p := hA0
  rw [Try.params11] at hA hval
  obtain ⟨v0, vs0, d0, ds0, p0, q0, hargs, rfl, rfl, h0, r0⟩ := trodAll_cons hA
  obtain ⟨v1, vs1, d1, ds1, p1, q1, rfl, rfl, rfl, h1, r1⟩ := trodAll_cons r0
  obtain ⟨v2, vs2, d2, ds2, p2, q2, rfl, rfl, rfl, h2, r2⟩ := trodAll_cons r1
  obtain ⟨v3, vs3, d3, ds3, p3, q3, rfl, rfl, rfl, h3, r3⟩ := trodAll_cons r2
  obtain ⟨rfl, rfl, rfl⟩ := trodAll_nil r3
  obtain rfl : args = #[v0, v1, v2, v3] := by cases args; simp_all
  obtain ⟨rfl, rfl⟩ := trodVars_none hV
  obtain ⟨a0, rfl, rfl, rfl, w0⟩ := Go.ChangeMaps.open_string Try.underlying9 (hval 0 9 v0 rfl rfl) h0
  obtain ⟨a1, rfl, rfl, rfl, w1⟩ := Go.ChangeMaps.open_string Try.underlying9 (hval 1 9 v1 rfl rfl) h1
  obtain ⟨a2, rfl, rfl, rfl, w2⟩ := Go.ChangeMaps.open_string Try.underlying9 (hval 2 9 v2 rfl rfl) h2
  obtain ⟨a3, rfl, rfl, rfl, w3⟩ := open_int Try.underlying3 (hval 3 3 v3 rfl rfl) h3
  clear hA0 hval0
  simp only [List.append_nil] at hW'
  refine (walk a0 a1 a2 a3 w0 w1 w2 w3 W).mono fun e W' ⟨he, hg⟩ => ?_
  subst he
  exact ⟨_, rfl, _, _, _, _, _, [], hW', (trodAll_cons_mk (shut_bool Try.underlying4 _) trodAll_mk0), (trodAll_cons_mk (Go.ChangeMaps.shut_string Try.underlying9 w0) (trodAll_cons_mk (Go.ChangeMaps.shut_string Try.underlying9 w1) (trodAll_cons_mk (Go.ChangeMaps.shut_string Try.underlying9 w2) (trodAll_cons_mk (shut_int Try.underlying3 w3) trodAll_mk0)))), rfl, hg.frame _, fun h => by cases h⟩

theorem over : Rows.kdfTellsRow.holds Try.pinned (OpenSpec.ofChange Rows.kdfTellsSpec) :=
  OpenClaim.holds_of_wide 11 Try.f11 rfl rfl rfl rfl rfl rfl rfl ⟨rfl, rfl, rfl, rfl, rfl⟩ rfl rfl rfl rfl rfl (by kernel_rfl) Try.func11 (by kernel_rfl)
    (of_decide_eq_true (by kernel_rfl)) (by unfold Func.isWrapper; first | (rw [if_pos (by decide +kernel)]; kernel_rfl) | (rw [if_neg (by decide +kernel)]; exact ⟨rfl, rfl⟩))
    (fun os started H enc _ => lifted os started H enc)

theorem proved : Rows.KdfTellsSaid :=
  over

end Go.Proofs.Ytijpmfnomdngpaa.kdfTells
