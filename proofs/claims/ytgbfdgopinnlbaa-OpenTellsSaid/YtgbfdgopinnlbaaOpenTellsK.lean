/- The law OpenTells: whatever is handed in, the payload, or why there is none, is what the document says; no conditions. -/
import Derived.Test.YtgbfdgopinnlbaaRows
import Derived.WalkKit
import Derived.ProofKit
import Derived.OpenShut
import Derived.Lib.Hide
import Derived.Test.YtgbfdgopinnlbaaPk36
namespace Go.Proofs.Ytgbfdgopinnlbaa.openTells
open Go.ChangeShapes Go.WideShapes Go.ChangeAt Go.RowKit
open Aes Cmac Kdf Der Seal Opn

set_option maxRecDepth 100000 in
set_option maxHeartbeats 4000000 in
theorem core (key top c t : ByteArray) (h1 : key.size ≤ 100) (h2 : top.size ≤ 300) (h3 : c.size ≤ 160) (h4 : t.size ≤ 100) (P : ByteArray) (e : Int) (b : Bool) (hb : (e == 0) = b)
    (c1 : Mak 42 #[.string key, .string top, .string c, .string t] (.tuple #[.string P, .int .i64 e])) (c2 : Mak 43 #[.string key, .string top, .string c, .string t] (.tuple #[.string P, .int .i64 e]))
    (c3 : Mak 44 #[.string key, .string top, .string c, .string t] (.bool b)) (w : World) :
    Calls Try.prog 9 #[.string key, .string top, .string c, .string t] w fun x w' => x = .returned (.bool true) ∧ Since w w' := by
  have H0 := Lib.hid (Since.refl w)
  have t_key : decide ((100 : Int) < (key.size : Int)) = false := decide_eq_false (by omega)
  have t_top : decide ((300 : Int) < (top.size : Int)) = false := decide_eq_false (by omega)
  have t_c : decide ((160 : Int) < (c.size : Int)) = false := decide_eq_false (by omega)
  have t_t : decide ((100 : Int) < (t.size : Int)) = false := decide_eq_false (by omega)
  clear h1 h2 h3 h4
  cases b
  all_goals
    go_enter Try.func9, Try.ntmps9
    go_wp2_with fail
    refine c1.calls H0.out ?_
    intro w1 h1
    have H1 := Lib.hid h1
    clear h1
    go_wp2_with fail
    refine c2.calls H1.out ?_
    intro w2 h2
    have H2 := Lib.hid h2
    clear h2
    go_wp2_with fail
    refine c3.calls H2.out ?_
    intro w3 h3
    have H3 := Lib.hid h3
    clear h3
    go_wp2_with fail
    refine awake_mak.calls H3.out ?_
    intro w4 h4
    have H4 := Lib.hid h4
    clear h4
    go_wp2_with fail
    go_ret
    exact ⟨rfl, H4.out⟩
set_option maxRecDepth 100000 in
set_option maxHeartbeats 4000000 in
theorem core_big (key top c t : ByteArray) (hb : 100 < key.size ∨ 300 < top.size ∨ 160 < c.size ∨ 100 < t.size) (w : World) :
    Calls Try.prog 9 #[.string key, .string top, .string c, .string t] w fun x w' => x = .returned (.bool true) ∧ Since w w' := by
  have H0 := Lib.hid (Since.refl w)
  by_cases h_key : 100 < key.size
  · have t_key : decide ((100 : Int) < (key.size : Int)) = true := decide_eq_true (by omega)
    clear hb h_key
    go_enter Try.func9, Try.ntmps9
    go_wp2_with fail
    refine awake_mak.calls H0.out ?_
    intro w1 h1
    have H1 := Lib.hid h1
    clear h1
    go_wp2_with fail
    go_ret
    exact ⟨rfl, H1.out⟩
  · have t_key : decide ((100 : Int) < (key.size : Int)) = false := decide_eq_false (by omega)
    by_cases h_top : 300 < top.size
    · have t_top : decide ((300 : Int) < (top.size : Int)) = true := decide_eq_true (by omega)
      clear hb h_key h_top
      go_enter Try.func9, Try.ntmps9
      go_wp2_with fail
      refine awake_mak.calls H0.out ?_
      intro w1 h1
      have H1 := Lib.hid h1
      clear h1
      go_wp2_with fail
      go_ret
      exact ⟨rfl, H1.out⟩
    · have t_top : decide ((300 : Int) < (top.size : Int)) = false := decide_eq_false (by omega)
      by_cases h_c : 160 < c.size
      · have t_c : decide ((160 : Int) < (c.size : Int)) = true := decide_eq_true (by omega)
        clear hb h_key h_top h_c
        go_enter Try.func9, Try.ntmps9
        go_wp2_with fail
        refine awake_mak.calls H0.out ?_
        intro w1 h1
        have H1 := Lib.hid h1
        clear h1
        go_wp2_with fail
        go_ret
        exact ⟨rfl, H1.out⟩
      · have t_c : decide ((160 : Int) < (c.size : Int)) = false := decide_eq_false (by omega)
        have t_t : decide ((100 : Int) < (t.size : Int)) = true := decide_eq_true (by omega)
        clear hb h_key h_top h_c
        go_enter Try.func9, Try.ntmps9
        go_wp2_with fail
        refine awake_mak.calls H0.out ?_
        intro w1 h1
        have H1 := Lib.hid h1
        clear h1
        go_wp2_with fail
        go_ret
        exact ⟨rfl, H1.out⟩
set_option maxRecDepth 100000 in
theorem walk (a0 a1 a2 a3 : ByteArray) (_w0 : a0.size ≤ maxLen) (_w1 : a1.size ≤ maxLen) (_w2 : a2.size ≤ maxLen) (_w3 : a3.size ≤ maxLen) (w : World) :
    Calls Try.prog 9 #[.string a0, .string a1, .string a2, .string a3] w fun e w' => e = .returned (.bool true) ∧ Below w.heap.size w w' := by
  by_cases hb : 100 < a0.size ∨ 300 < a1.size ∨ 160 < a2.size ∨ 100 < a3.size
  · exact core_big a0 a1 a2 a3 hb w
  · have q1 := open_mak a0 a1 a2 a3 (by omega) (by omega) (by omega) (by omega)
    exact core a0 a1 a2 a3 (by omega) (by omega) (by omega) (by omega) _ _ _ rfl q1 (ropen_mak a0 a1 a2 a3 (by omega) (by omega) (by omega) (by omega)) (right_mak a0 a1 a2 a3 _ _ _ rfl q1) w

set_option maxRecDepth 100000 in
theorem own : ownKnob Try.prog.godebug = none := by kernel_rfl

set_option maxRecDepth 100000 in
theorem lifted (os : Os) (started : os.Started) (H : Type) (enc : TypeId × Value → H) :
    ReturnsInHanded {} Try.checked os 9 .any (Rows.openTellsSpec.pre6 enc Try.prog Try.f9 Rows.openTellsRow.domain false) (Rows.openTellsSpec.post enc Try.prog Try.f9 false true false false) := by
  refine returnsInHanded_of_change (C := Try.checked) own started (by kernel_rfl) Try.func9
    (ChangeSpec.witness6 (enc := enc) (C := Try.checked) false ⟨#[], #[.string ⟨#[]⟩, .string ⟨#[]⟩, .string ⟨#[]⟩, .string ⟨#[]⟩], []⟩ 8 (by kernel_rfl) (by kernel_rfl) (by kernel_rfl) (by kernel_rfl)) ?_
  intro W base args ds gs before hval0 hW hcnd _
  have hval : ∀ (j : Nat) t v, Try.f9.params[j]? = some t → args[j]? = some v → Value.okWide Try.prog W .any base t v := hval0
  have hW' := hW
  obtain ⟨p, q, hA0, hV, rfl, hfz, hnd⟩ := hW
  have hA : DataW.TrodAll enc Try.prog W 0 (fun _ => true) true Try.f9.params.toList args.toList ds p := hA0
  rw [Try.params9] at hA hval
  obtain ⟨v0, vs0, d0, ds0, p0, q0, hargs, rfl, rfl, h0, r0⟩ := trodAll_cons hA
  obtain ⟨v1, vs1, d1, ds1, p1, q1, rfl, rfl, rfl, h1, r1⟩ := trodAll_cons r0
  obtain ⟨v2, vs2, d2, ds2, p2, q2, rfl, rfl, rfl, h2, r2⟩ := trodAll_cons r1
  obtain ⟨v3, vs3, d3, ds3, p3, q3, rfl, rfl, rfl, h3, r3⟩ := trodAll_cons r2
  obtain ⟨rfl, rfl, rfl⟩ := trodAll_nil r3
  obtain rfl : args = #[v0, v1, v2, v3] := by cases args; simp_all
  obtain ⟨rfl, rfl⟩ := trodVars_none hV
  obtain ⟨a0, rfl, rfl, rfl, w0⟩ := Go.ChangeMaps.open_string Try.underlying9 (hval 0 9 v0 rfl rfl) h0
  obtain ⟨a1, rfl, rfl, rfl, w1⟩ := Go.ChangeMaps.open_string Try.underlying9 (hval 1 9 v1 rfl rfl) h1
  obtain ⟨a2, rfl, rfl, rfl, w2⟩ := Go.ChangeMaps.open_string Try.underlying9 (hval 2 9 v2 rfl rfl) h2
  obtain ⟨a3, rfl, rfl, rfl, w3⟩ := Go.ChangeMaps.open_string Try.underlying9 (hval 3 9 v3 rfl rfl) h3
  clear hA0 hval0
  simp only [List.append_nil] at hW'
  refine (walk a0 a1 a2 a3 w0 w1 w2 w3 W).mono fun e W' ⟨he, hg⟩ => ?_
  subst he
  exact ⟨_, rfl, _, _, _, _, _, [], hW', (trodAll_cons_mk (shut_bool Try.underlying4 _) trodAll_mk0), (trodAll_cons_mk (Go.ChangeMaps.shut_string Try.underlying9 w0) (trodAll_cons_mk (Go.ChangeMaps.shut_string Try.underlying9 w1) (trodAll_cons_mk (Go.ChangeMaps.shut_string Try.underlying9 w2) (trodAll_cons_mk (Go.ChangeMaps.shut_string Try.underlying9 w3) trodAll_mk0)))), rfl, hg.frame _, fun h => by cases h⟩

set_option maxRecDepth 100000 in
theorem over : Rows.openTellsRow.holds Try.pinned (OpenSpec.ofChange Rows.openTellsSpec) :=
  OpenClaim.holds_of_wide 9 Try.f9 rfl rfl rfl rfl rfl rfl rfl ⟨rfl, rfl, rfl, rfl, rfl⟩ rfl rfl rfl rfl rfl (by kernel_rfl) Try.func9 (by kernel_rfl)
    (of_decide_eq_true (by kernel_rfl)) (by unfold Func.isWrapper; first | (rw [if_pos (by decide +kernel)]; kernel_rfl) | (rw [if_neg (by decide +kernel)]; exact ⟨rfl, rfl⟩))
    (fun os started H enc _ => lifted os started H enc)

theorem proved : Rows.OpenTellsSaid :=
  over

end Go.Proofs.Ytgbfdgopinnlbaa.openTells
