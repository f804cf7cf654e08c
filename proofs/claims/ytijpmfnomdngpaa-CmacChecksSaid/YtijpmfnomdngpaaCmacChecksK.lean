/- The law CmacChecks: a tag is right just if it is the text's, whatever is handed in; no conditions. -/
import Derived.Test.YtijpmfnomdngpaaRows
import Derived.WalkKit
import Derived.ProofKit
import Derived.OpenShut
import Derived.Lib.Hide
import Derived.Test.YtijpmfnomdngpaaPk34
namespace Go.Proofs.Ytijpmfnomdngpaa.cmacChecks
open Go.ChangeShapes Go.WideShapes Go.ChangeAt Go.RowKit
open Aes Cmac

set_option maxRecDepth 100000 in
set_option maxHeartbeats 4000000 in
theorem core_no (key s t : ByteArray) (hk : (key.size : Int) ≤ 100) (hs : (s.size : Int) ≤ 160) (ht : (t.size : Int) ≤ 100) (T : ByteArray) 
    (c1 : Mak 34 #[.string key, .string s] (.tuple #[.string T, .int .i64 2]))
    (c2 : Mak 41 #[.string key, .string s, .string t] (.tuple #[.bool false, .int .i64 2])) (c3 : Mak 41 #[.string key, .string s, .string T] (.tuple #[.bool false, .int .i64 2])) (w : World) :
    Calls Try.prog 9 #[.string key, .string s, .string t] w fun x w' => x = .returned (.bool true) ∧ Since w w' := by
  have H0 := Lib.hid (Since.refl w)
  have t1 : decide ((100 : Int) < (key.size : Int)) = false := decide_eq_false (by omega)
  have t2 : decide ((160 : Int) < (s.size : Int)) = false := decide_eq_false (by omega)
  have t3 : decide ((100 : Int) < (t.size : Int)) = false := decide_eq_false (by omega)
  go_enter Try.func9, Try.ntmps9
  go_wp2_with fail
  refine c1.calls H0.out ?_
  intro w1 h1
  have H1 := Lib.hid h1
  clear h1
  go_wp2_with fail
  refine c2.calls H1.out ?_
  intro w2 h2
  have H2 := Lib.hid h2
  clear h2
  go_wp2_with fail
  refine c3.calls H2.out ?_
  intro w3 h3
  have H3 := Lib.hid h3
  clear h3
  go_wp2_with fail
  refine awake_mak.calls H3.out ?_
  intro w4 h4
  have H4 := Lib.hid h4
  clear h4
  go_wp2_with fail
  go_ret
  exact ⟨rfl, H4.out⟩
set_option maxRecDepth 100000 in
set_option maxHeartbeats 4000000 in
theorem core_t (key s t : ByteArray) (hk : (key.size : Int) ≤ 100) (hs : (s.size : Int) ≤ 160) (ht : (t.size : Int) ≤ 100) (T : ByteArray) (hq : (t.toList == T.toList) = true)
    (c1 : Mak 34 #[.string key, .string s] (.tuple #[.string T, .int .i64 0]))
    (c2 : Mak 41 #[.string key, .string s, .string t] (.tuple #[.bool true, .int .i64 0])) (c3 : Mak 41 #[.string key, .string s, .string T] (.tuple #[.bool true, .int .i64 0])) (w : World) :
    Calls Try.prog 9 #[.string key, .string s, .string t] w fun x w' => x = .returned (.bool true) ∧ Since w w' := by
  have H0 := Lib.hid (Since.refl w)
  have t1 : decide ((100 : Int) < (key.size : Int)) = false := decide_eq_false (by omega)
  have t2 : decide ((160 : Int) < (s.size : Int)) = false := decide_eq_false (by omega)
  have t3 : decide ((100 : Int) < (t.size : Int)) = false := decide_eq_false (by omega)
  go_enter Try.func9, Try.ntmps9
  go_wp2_with fail
  refine c1.calls H0.out ?_
  intro w1 h1
  have H1 := Lib.hid h1
  clear h1
  go_wp2_with fail
  refine c2.calls H1.out ?_
  intro w2 h2
  have H2 := Lib.hid h2
  clear h2
  go_wp2_with fail
  refine c3.calls H2.out ?_
  intro w3 h3
  have H3 := Lib.hid h3
  clear h3
  go_wp2_with fail
  refine awake_mak.calls H3.out ?_
  intro w4 h4
  have H4 := Lib.hid h4
  clear h4
  go_wp2_with fail
  go_ret
  exact ⟨rfl, H4.out⟩
set_option maxRecDepth 100000 in
set_option maxHeartbeats 4000000 in
theorem core_f (key s t : ByteArray) (hk : (key.size : Int) ≤ 100) (hs : (s.size : Int) ≤ 160) (ht : (t.size : Int) ≤ 100) (T : ByteArray) (hq : (t.toList == T.toList) = false)
    (c1 : Mak 34 #[.string key, .string s] (.tuple #[.string T, .int .i64 0]))
    (c2 : Mak 41 #[.string key, .string s, .string t] (.tuple #[.bool false, .int .i64 0])) (c3 : Mak 41 #[.string key, .string s, .string T] (.tuple #[.bool true, .int .i64 0])) (w : World) :
    Calls Try.prog 9 #[.string key, .string s, .string t] w fun x w' => x = .returned (.bool true) ∧ Since w w' := by
  have H0 := Lib.hid (Since.refl w)
  have t1 : decide ((100 : Int) < (key.size : Int)) = false := decide_eq_false (by omega)
  have t2 : decide ((160 : Int) < (s.size : Int)) = false := decide_eq_false (by omega)
  have t3 : decide ((100 : Int) < (t.size : Int)) = false := decide_eq_false (by omega)
  go_enter Try.func9, Try.ntmps9
  go_wp2_with fail
  refine c1.calls H0.out ?_
  intro w1 h1
  have H1 := Lib.hid h1
  clear h1
  go_wp2_with fail
  refine c2.calls H1.out ?_
  intro w2 h2
  have H2 := Lib.hid h2
  clear h2
  go_wp2_with fail
  refine c3.calls H2.out ?_
  intro w3 h3
  have H3 := Lib.hid h3
  clear h3
  go_wp2_with fail
  refine awake_mak.calls H3.out ?_
  intro w4 h4
  have H4 := Lib.hid h4
  clear h4
  go_wp2_with fail
  go_ret
  exact ⟨rfl, H4.out⟩
theorem walk (a0 a1 a2 : ByteArray) (w0 : a0.size ≤ maxLen) (w1 : a1.size ≤ maxLen) (w2 : a2.size ≤ maxLen) (w : World) :
    Calls Try.prog 9 #[.string a0, .string a1, .string a2] w fun e w' => e = .returned (.bool true) ∧ Below w.heap.size w w' := by
  unfold maxLen at w0 w1 w2
  by_cases hl : a0.size ≤ 100 ∧ a1.size ≤ 160 ∧ a2.size ≤ 100
  · obtain ⟨l0, l1, l2⟩ := hl
    by_cases hk : keyOk a0
    · have c1 := RefCmac.tag_yes a0 a1 hk (by omega) _ rfl
      have c3 := Cmac.check_yes a0 a1 (tagK a0 a1) hk (by omega) (by rw [tagK_size]; omega) true (by simp)
      by_cases h : a2 = tagK a0 a1
      · exact core_t a0 a1 a2 (by omega) (by omega) (by omega) _ (str_eq_t h) c1 (Cmac.check_yes a0 a1 a2 hk (by omega) (by omega) true (by rw [h]; simp)) c3 w
      · exact core_f a0 a1 a2 (by omega) (by omega) (by omega) _ (str_ne_f h) c1 (Cmac.check_yes a0 a1 a2 hk (by omega) (by omega) false (decide_eq_false (fun h2 => h h2.symm)).symm) c3 w
    · exact core_no a0 a1 a2 (by omega) (by omega) (by omega) _ (RefCmac.tag_no a0 a1 (by omega) hk) (Cmac.check_no a0 a1 a2 (by omega) hk).mak (Cmac.check_no a0 a1 _ (by omega) hk).mak w
  · have H0 := Lib.hid (Since.refl w)
    by_cases h0 : a0.size ≤ 100
    · by_cases h1 : a1.size ≤ 160
      · have h2 : ¬ a2.size ≤ 100 := fun h => hl ⟨h0, h1, h⟩
        clear hl
        go_enter Try.func9, Try.ntmps9
        go_wp2_with fail
        all_goals
          refine awake_mak.calls H0.out ?_
          intro w1 h1
          have H1 := Lib.hid h1
          clear h1
          go_wp2_with fail
          go_ret
          exact ⟨rfl, H1.out⟩
      · clear hl
        go_enter Try.func9, Try.ntmps9
        go_wp2_with fail
        all_goals
          refine awake_mak.calls H0.out ?_
          intro w1 h1
          have H1 := Lib.hid h1
          clear h1
          go_wp2_with fail
          go_ret
          exact ⟨rfl, H1.out⟩
    · clear hl
      go_enter Try.func9, Try.ntmps9
      go_wp2_with fail
      all_goals
        refine awake_mak.calls H0.out ?_
        intro w1 h1
        have H1 := Lib.hid h1
        clear h1
        go_wp2_with fail
        go_ret
        exact ⟨rfl, H1.out⟩

theorem own : ownKnob Try.prog.godebug = none := by kernel_rfl

set_option maxRecDepth 100000 in
theorem lifted (os : Os) (started : os.Started) (H : Type) (enc : TypeId × Value → H) :
    ReturnsInHanded {} Try.checked os 9 .any (Rows.cmacChecksSpec.pre6 enc Try.prog Try.f9 Rows.cmacChecksRow.domain false) (Rows.cmacChecksSpec.post enc Try.prog Try.f9 false true false false) := by
  refine returnsInHanded_of_change (C := Try.checked) own started (by kernel_rfl) Try.func9
    (ChangeSpec.witness6 (enc := enc) (C := Try.checked) false ⟨#[], #[.string ⟨#[]⟩, .string ⟨#[]⟩, .string ⟨#[]⟩], []⟩ 8 (by kernel_rfl) (by kernel_rfl) (by kernel_rfl) (by kernel_rfl)) ?_
  intro W base args ds gs before hval0 hW hcnd _
  have hval : ∀ (j : Nat) t v, Try.f9.params[j]? = some t → args[j]? = some v → Value.okWide Try.prog W .any base t v := hval0
  have hW' := hW
  obtain ⟨p, q, hA0, hV, rfl, hfz, hnd⟩ := hW
  have hA : DataW.TrodAll enc Try.prog W 0 (fun _ => true) true Try.f9.params.toList args.toList ds p := hA0
  rw [Try.params9] at hA hval
  obtain ⟨v0, vs0, d0, ds0, p0, q0, hargs, rfl, rfl, h0, r0⟩ := trodAll_cons hA
  obtain ⟨v1, vs1, d1, ds1, p1, q1, rfl, rfl, rfl, h1, r1⟩ := trodAll_cons r0
  obtain ⟨v2, vs2, d2, ds2, p2, q2, rfl, rfl, rfl, h2, r2⟩ := trodAll_cons r1
  obtain ⟨rfl, rfl, rfl⟩ := trodAll_nil r2
  obtain rfl : args = #[v0, v1, v2] := by cases args; simp_all
  obtain ⟨rfl, rfl⟩ := trodVars_none hV
  obtain ⟨a0, rfl, rfl, rfl, w0⟩ := Go.ChangeMaps.open_string Try.underlying9 (hval 0 9 v0 rfl rfl) h0
  obtain ⟨a1, rfl, rfl, rfl, w1⟩ := Go.ChangeMaps.open_string Try.underlying9 (hval 1 9 v1 rfl rfl) h1
  obtain ⟨a2, rfl, rfl, rfl, w2⟩ := Go.ChangeMaps.open_string Try.underlying9 (hval 2 9 v2 rfl rfl) h2
  clear hA0 hval0
  simp only [List.append_nil] at hW'
  refine (walk a0 a1 a2 w0 w1 w2 W).mono fun e W' ⟨he, hg⟩ => ?_
  subst he
  exact ⟨_, rfl, _, _, _, _, _, [], hW', (trodAll_cons_mk (shut_bool Try.underlying4 _) trodAll_mk0), (trodAll_cons_mk (Go.ChangeMaps.shut_string Try.underlying9 w0) (trodAll_cons_mk (Go.ChangeMaps.shut_string Try.underlying9 w1) (trodAll_cons_mk (Go.ChangeMaps.shut_string Try.underlying9 w2) trodAll_mk0))), rfl, hg.frame _, fun h => by cases h⟩

theorem over : Rows.cmacChecksRow.holds Try.pinned (OpenSpec.ofChange Rows.cmacChecksSpec) :=
  OpenClaim.holds_of_wide 9 Try.f9 rfl rfl rfl rfl rfl rfl rfl ⟨rfl, rfl, rfl, rfl, rfl⟩ rfl rfl rfl rfl rfl (by kernel_rfl) Try.func9 (by kernel_rfl)
    (of_decide_eq_true (by kernel_rfl)) (by unfold Func.isWrapper; first | (rw [if_pos (by decide +kernel)]; kernel_rfl) | (rw [if_neg (by decide +kernel)]; exact ⟨rfl, rfl⟩))
    (fun os started H enc _ => lifted os started H enc)

theorem proved : Rows.CmacChecksSaid :=
  over

end Go.Proofs.Ytijpmfnomdngpaa.cmacChecks
