/- The law CmacTells: any text's tag under any key, or why there is none, is what the document says; no conditions. -/
import Derived.Test.YtijpmfnomdngpaaRows
import Derived.WalkKit
import Derived.ProofKit
import Derived.OpenShut
import Derived.Lib.Hide
import Derived.Test.YtijpmfnomdngpaaPk34
namespace Go.Proofs.Ytijpmfnomdngpaa.cmacTells
open Go.ChangeShapes Go.WideShapes Go.ChangeAt Go.RowKit
open Aes Cmac

set_option maxRecDepth 100000 in
set_option maxHeartbeats 4000000 in
theorem core (key s b : ByteArray) (n : Int) (hk : (key.size : Int) ≤ 100) (hs : (s.size : Int) ≤ 160) (hb : (b.size : Int) ≤ 100) (T A B D : ByteArray) (e x : Int)
    (c1 : Mak 33 #[.string key, .string s] (.tuple #[.string T, .int .i64 e])) (c2 : Mak 34 #[.string key, .string s] (.tuple #[.string T, .int .i64 e]))
    (c3 : Mak 35 #[.string key] (.tuple #[.string A, .string B, .int .i64 e])) (c4 : Mak 36 #[.string key] (.tuple #[.string A, .string B, .int .i64 e]))
    (c5 : Mak 37 #[.string b] (.string D)) (c6 : Mak 38 #[.string b] (.string D)) (c7 : Ret 39 #[.int .i64 n] (.int .i64 x)) (c8 : Ret 40 #[.int .i64 n] (.int .i64 x)) (w : World) :
    Calls Try.prog 8 #[.string key, .string s, .string b, .int .i64 n] w fun x w' => x = .returned (.bool true) ∧ Since w w' := by
  have H0 := Lib.hid (Since.refl w)
  have t1 : decide ((100 : Int) < (key.size : Int)) = false := decide_eq_false (by omega)
  have t2 : decide ((160 : Int) < (s.size : Int)) = false := decide_eq_false (by omega)
  have t3 : decide ((100 : Int) < (b.size : Int)) = false := decide_eq_false (by omega)
  go_enter Try.func8, Try.ntmps8
  go_wp2_with fail
  refine c1.calls H0.out ?_
  intro w1 h1
  have H1 := Lib.hid h1
  clear h1
  go_wp2_with fail
  refine c2.calls H1.out ?_
  intro w2 h2
  have H2 := Lib.hid h2
  clear h2
  go_wp2_with fail
  refine c3.calls H2.out ?_
  intro w3 h3
  have H3 := Lib.hid h3
  clear h3
  go_wp2_with fail
  refine c4.calls H3.out ?_
  intro w4 h4
  have H4 := Lib.hid h4
  clear h4
  go_wp2_with fail
  refine c5.calls H4.out ?_
  intro w5 h5
  have H5 := Lib.hid h5
  clear h5
  go_wp2_with fail
  refine c6.calls H5.out ?_
  intro w6 h6
  have H6 := Lib.hid h6
  clear h6
  go_wp2_with fail
  refine (c7).calls ?_
  go_wp2_with fail
  refine (c8).calls ?_
  go_wp2_with fail
  refine awake_mak.calls H6.out ?_
  intro w7 h7
  have H7 := Lib.hid h7
  clear h7
  go_wp2_with fail
  go_ret
  exact ⟨rfl, H7.out⟩
theorem walk (a0 a1 a2 : ByteArray) (a3 : Int) (w0 : a0.size ≤ maxLen) (w1 : a1.size ≤ maxLen) (w2 : a2.size ≤ maxLen) (w3 : (Lit.int .i64 a3).wf = true) (w : World) :
    Calls Try.prog 8 #[.string a0, .string a1, .string a2, .int .i64 a3] w fun e w' => e = .returned (.bool true) ∧ Below w.heap.size w w' := by
  unfold maxLen at w0 w1 w2
  by_cases hl : a0.size ≤ 100 ∧ a1.size ≤ 160 ∧ a2.size ≤ 100
  · obtain ⟨l0, l1, l2⟩ := hl
    obtain ⟨D, q5, q6⟩ : ∃ D, Mak 37 #[.string a2] (.string D) ∧ Mak 38 #[.string a2] (.string D) := by
      by_cases h : a2.size = 16
      · exact ⟨_, Cmac.double_yes a2 h _ rfl, RefCmac.double_yes a2 h _ rfl⟩
      · exact ⟨_, (Cmac.double_no a2 h).mak, (RefCmac.double_no a2 h).mak⟩
    obtain ⟨x, q7, q8⟩ : ∃ x, Ret 39 #[.int .i64 a3] (.int .i64 x) ∧ Ret 40 #[.int .i64 a3] (.int .i64 x) := by
      have hu := i64_of_wf w3
      by_cases h : a3 < 0
      · exact ⟨0, Cmac.blocks_neg a3 h, RefCmac.blocks_neg a3 h⟩
      · obtain ⟨m, rfl⟩ := Int.eq_ofNat_of_zero_le (show 0 ≤ a3 by omega)
        exact ⟨_, Cmac.blocks_nat m (by omega) _ rfl, RefCmac.blocks_nat m (by omega) _ rfl⟩
    by_cases hk : keyOk a0
    · exact core a0 a1 a2 a3 (by omega) (by omega) (by omega) _ _ _ D 0 x (Cmac.tag_yes a0 a1 hk (by omega) _ rfl) (RefCmac.tag_yes a0 a1 hk (by omega) _ rfl) (Cmac.subkeys_yes a0 hk _ _ rfl rfl) (RefCmac.subkeys_yes a0 hk _ _ rfl rfl) q5 q6 q7 q8 w
    · exact core a0 a1 a2 a3 (by omega) (by omega) (by omega) _ _ _ D 2 x (Cmac.tag_no a0 a1 (by omega) hk).mak (RefCmac.tag_no a0 a1 (by omega) hk) (Cmac.subkeys_no a0 (by omega) hk).mak (RefCmac.subkeys_no a0 (by omega) hk) q5 q6 q7 q8 w
  · have H0 := Lib.hid (Since.refl w)
    by_cases h0 : a0.size ≤ 100
    · by_cases h1 : a1.size ≤ 160
      · have h2 : ¬ a2.size ≤ 100 := fun h => hl ⟨h0, h1, h⟩
        clear hl
        go_enter Try.func8, Try.ntmps8
        go_wp2_with fail
        all_goals
          refine awake_mak.calls H0.out ?_
          intro w1 h1
          have H1 := Lib.hid h1
          clear h1
          go_wp2_with fail
          go_ret
          exact ⟨rfl, H1.out⟩
      · clear hl
        go_enter Try.func8, Try.ntmps8
        go_wp2_with fail
        all_goals
          refine awake_mak.calls H0.out ?_
          intro w1 h1
          have H1 := Lib.hid h1
          clear h1
          go_wp2_with fail
          go_ret
          exact ⟨rfl, H1.out⟩
    · clear hl
      go_enter Try.func8, Try.ntmps8
      go_wp2_with fail
      all_goals
        refine awake_mak.calls H0.out ?_
        intro w1 h1
        have H1 := Lib.hid h1
        clear h1
        go_wp2_with fail
        go_ret
        exact ⟨rfl, H1.out⟩

theorem own : ownKnob Try.prog.godebug = none := by kernel_rfl

set_option maxRecDepth 100000 in
theorem lifted (os : Os) (started : os.Started) (H : Type) (enc : TypeId × Value → H) :
    ReturnsInHanded {} Try.checked os 8 .any (Rows.cmacTellsSpec.pre6 enc Try.prog Try.f8 Rows.cmacTellsRow.domain false) (Rows.cmacTellsSpec.post enc Try.prog Try.f8 false true false false) := by
  refine returnsInHanded_of_change (C := Try.checked) own started (by kernel_rfl) Try.func8
    (ChangeSpec.witness6 (enc := enc) (C := Try.checked) false ⟨#[], #[.string ⟨#[]⟩, .string ⟨#[]⟩, .string ⟨#[]⟩, .int .i64 0], []⟩ 8 (by kernel_rfl) (by kernel_rfl) (by kernel_rfl) (by kernel_rfl)) ?_
  intro W base args ds gs before hval0 hW hcnd _
  have hval : ∀ (j : Nat) t v, Try.f8.params[j]? = some t → args[j]? = some v → Value.okWide Try.prog W .any base t v := hval0
  have hW' := hW
  obtain ⟨p, q, hA0, hV, rfl, hfz, hnd⟩ := hW
  have hA : DataW.TrodAll enc Try.prog W 0 (fun _ => true) true Try.f8.params.toList args.toList ds p := hA0
  rw [Try.params8] at hA hval
  obtain ⟨v0, vs0, d0, ds0, p0, q0, hargs, rfl, rfl, h0, r0⟩ := trodAll_cons hA
  obtain ⟨v1, vs1, d1, ds1, p1, q1, rfl, rfl, rfl, h1, r1⟩ := trodAll_cons r0
  obtain ⟨v2, vs2, d2, ds2, p2, q2, rfl, rfl, rfl, h2, r2⟩ := trodAll_cons r1
  obtain ⟨v3, vs3, d3, ds3, p3, q3, rfl, rfl, rfl, h3, r3⟩ := trodAll_cons r2
  obtain ⟨rfl, rfl, rfl⟩ := trodAll_nil r3
  obtain rfl : args = #[v0, v1, v2, v3] := by cases args; simp_all
  obtain ⟨rfl, rfl⟩ := trodVars_none hV
  obtain ⟨a0, rfl, rfl, rfl, w0⟩ := Go.ChangeMaps.open_string Try.underlying9 (hval 0 9 v0 rfl rfl) h0
  obtain ⟨a1, rfl, rfl, rfl, w1⟩ := Go.ChangeMaps.open_string Try.underlying9 (hval 1 9 v1 rfl rfl) h1
  obtain ⟨a2, rfl, rfl, rfl, w2⟩ := Go.ChangeMaps.open_string Try.underlying9 (hval 2 9 v2 rfl rfl) h2
  obtain ⟨a3, rfl, rfl, rfl, w3⟩ := open_int Try.underlying3 (hval 3 3 v3 rfl rfl) h3
  clear hA0 hval0
  simp only [List.append_nil] at hW'
  refine (walk a0 a1 a2 a3 w0 w1 w2 w3 W).mono fun e W' ⟨he, hg⟩ => ?_
  subst he
  exact ⟨_, rfl, _, _, _, _, _, [], hW', (trodAll_cons_mk (shut_bool Try.underlying4 _) trodAll_mk0), (trodAll_cons_mk (Go.ChangeMaps.shut_string Try.underlying9 w0) (trodAll_cons_mk (Go.ChangeMaps.shut_string Try.underlying9 w1) (trodAll_cons_mk (Go.ChangeMaps.shut_string Try.underlying9 w2) (trodAll_cons_mk (shut_int Try.underlying3 w3) trodAll_mk0)))), rfl, hg.frame _, fun h => by cases h⟩

theorem over : Rows.cmacTellsRow.holds Try.pinned (OpenSpec.ofChange Rows.cmacTellsSpec) :=
  OpenClaim.holds_of_wide 8 Try.f8 rfl rfl rfl rfl rfl rfl rfl ⟨rfl, rfl, rfl, rfl, rfl⟩ rfl rfl rfl rfl rfl (by kernel_rfl) Try.func8 (by kernel_rfl)
    (of_decide_eq_true (by kernel_rfl)) (by unfold Func.isWrapper; first | (rw [if_pos (by decide +kernel)]; kernel_rfl) | (rw [if_neg (by decide +kernel)]; exact ⟨rfl, rfl⟩))
    (fun os started H enc _ => lifted os started H enc)

theorem proved : Rows.CmacTellsSaid :=
  over

end Go.Proofs.Ytijpmfnomdngpaa.cmacTells
