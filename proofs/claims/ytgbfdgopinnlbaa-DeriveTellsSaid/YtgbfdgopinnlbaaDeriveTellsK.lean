/- The law DeriveTells: the keys out of any key, or why there are none, are what the document says; no conditions. -/
import Derived.Test.YtgbfdgopinnlbaaRows
import Derived.WalkKit
import Derived.ProofKit
import Derived.OpenShut
import Derived.Lib.Hide
import Derived.Test.YtgbfdgopinnlbaaPk35
namespace Go.Proofs.Ytgbfdgopinnlbaa.deriveTells
open Go.ChangeShapes Go.WideShapes Go.ChangeAt Go.RowKit
open Aes Cmac Kdf Der

set_option maxRecDepth 100000 in
set_option maxHeartbeats 4000000 in
theorem core (key : ByteArray) (p n : Int) (hk : (key.size : Int) ≤ 100) (A B X I : ByteArray) (e f : Int)
    (c1 : Mak 26 #[.string key] (.tuple #[.string A, .string B, .int .i64 e])) (c2 : Mak 27 #[.string key] (.tuple #[.string A, .string B, .int .i64 e]))
    (c3 : Mak 28 #[.string key, .int .i64 p] (.tuple #[.string X, .int .i64 f])) (c4 : Mak 29 #[.string key, .int .i64 p] (.tuple #[.string X, .int .i64 f]))
    (c5 : Mak 30 #[.int .i64 p, .int .i64 n] (.string I)) (c6 : Mak 31 #[.int .i64 p, .int .i64 n] (.string I)) (w : World) :
    Calls Try.prog 5 #[.string key, .int .i64 p, .int .i64 n] w fun x w' => x = .returned (.bool true) ∧ Since w w' := by
  have H0 := Lib.hid (Since.refl w)
  have t1 : decide ((100 : Int) < (key.size : Int)) = false := decide_eq_false (by omega)
  go_enter Try.func5, Try.ntmps5
  go_wp2_with fail
  refine c1.calls H0.out ?_
  intro w1 h1
  have H1 := Lib.hid h1
  clear h1
  go_wp2_with fail
  refine c2.calls H1.out ?_
  intro w2 h2
  have H2 := Lib.hid h2
  clear h2
  go_wp2_with fail
  refine c3.calls H2.out ?_
  intro w3 h3
  have H3 := Lib.hid h3
  clear h3
  go_wp2_with fail
  refine c4.calls H3.out ?_
  intro w4 h4
  have H4 := Lib.hid h4
  clear h4
  go_wp2_with fail
  refine c5.calls H4.out ?_
  intro w5 h5
  have H5 := Lib.hid h5
  clear h5
  go_wp2_with fail
  refine c6.calls H5.out ?_
  intro w6 h6
  have H6 := Lib.hid h6
  clear h6
  go_wp2_with fail
  refine awake_mak.calls H6.out ?_
  intro w7 h7
  have H7 := Lib.hid h7
  clear h7
  go_wp2_with fail
  go_ret
  exact ⟨rfl, H7.out⟩
set_option maxRecDepth 100000 in
theorem core_big (key : ByteArray) (p n : Int) (hb : (100 : Int) < (key.size : Int)) (w : World) :
    Calls Try.prog 5 #[.string key, .int .i64 p, .int .i64 n] w fun x w' => x = .returned (.bool true) ∧ Since w w' := by
  have H0 := Lib.hid (Since.refl w)
  have t1 : decide ((100 : Int) < (key.size : Int)) = true := decide_eq_true (by omega)
  clear hb
  go_enter Try.func5, Try.ntmps5
  go_wp2_with fail
  refine awake_mak.calls H0.out ?_
  intro w1 h1
  have H1 := Lib.hid h1
  clear h1
  go_wp2_with fail
  go_ret
  exact ⟨rfl, H1.out⟩
theorem both_key (key : ByteArray) (p : Int) (hm : key.size ≤ 100) : ∃ X e, Mak 28 #[.string key, .int .i64 p] (.tuple #[.string X, .int .i64 e]) ∧ Mak 29 #[.string key, .int .i64 p] (.tuple #[.string X, .int .i64 e]) := by
  by_cases hk : keyOk key
  · by_cases hp : p < 0 ∨ 1 < p
    · exact ⟨_, _, (key_noarg key p hk hp).mak, (RefDer.key_noarg key p hk hp).mak⟩
    · obtain ⟨q, rfl⟩ := Int.eq_ofNat_of_zero_le (show 0 ≤ p by omega)
      exact ⟨_, _, key_yes key q hk (by omega) _ rfl, RefDer.key_yes key q hk (by omega) _ rfl⟩
  · exact ⟨_, _, (key_nokey key p hk).mak, (RefDer.key_nokey key p (by omega) hk).mak⟩
theorem both_input (p n : Int) : ∃ X, Mak 30 #[.int .i64 p, .int .i64 n] (.string X) ∧ Mak 31 #[.int .i64 p, .int .i64 n] (.string X) := by
  by_cases hp : p < 0 ∨ 1 < p
  · exact ⟨_, (input_arg p n hp).mak, (RefDer.input_arg p n hp).mak⟩
  · by_cases hn : n ≠ 16 ∧ n ≠ 24 ∧ n ≠ 32
    · exact ⟨_, (input_len p n (by omega) (by omega) hn).mak, (RefDer.input_len p n (by omega) (by omega) hn).mak⟩
    · obtain ⟨q, rfl⟩ := Int.eq_ofNat_of_zero_le (show 0 ≤ p by omega)
      obtain ⟨m, rfl⟩ := Int.eq_ofNat_of_zero_le (show 0 ≤ n by omega)
      exact ⟨_, input_yes q m (by omega) (by omega) _ rfl, RefDer.input_yes q m (by omega) (by omega) _ rfl⟩
theorem both_keys (key : ByteArray) (hm : key.size ≤ 100) : ∃ A B e, Mak 26 #[.string key] (.tuple #[.string A, .string B, .int .i64 e]) ∧ Mak 27 #[.string key] (.tuple #[.string A, .string B, .int .i64 e]) := by
  by_cases hk : keyOk key
  · exact ⟨_, _, _, keys_yes key hk _ _ rfl rfl, RefDer.keys_yes key hk _ _ rfl rfl⟩
  · exact ⟨_, _, _, (keys_nokey key hk).mak, (RefDer.keys_nokey key (by omega) hk).mak⟩
set_option maxRecDepth 100000 in
theorem walk (a0 : ByteArray) (a1 a2 : Int) (_w0 : a0.size ≤ maxLen) (_w1 : (Lit.int .i64 a1).wf = true) (_w2 : (Lit.int .i64 a2).wf = true) (w : World) :
    Calls Try.prog 5 #[.string a0, .int .i64 a1, .int .i64 a2] w fun e w' => e = .returned (.bool true) ∧ Below w.heap.size w w' := by
  by_cases hb : 100 < a0.size
  · exact core_big a0 a1 a2 (by omega) w
  · obtain ⟨A, B, e, q1, q2⟩ := both_keys a0 (by omega)
    obtain ⟨X, f, q3, q4⟩ := both_key a0 a1 (by omega)
    obtain ⟨I, q5, q6⟩ := both_input a1 a2
    exact core a0 a1 a2 (by omega) A B X I e f q1 q2 q3 q4 q5 q6 w

set_option maxRecDepth 100000 in
theorem own : ownKnob Try.prog.godebug = none := by kernel_rfl

set_option maxRecDepth 100000 in
theorem lifted (os : Os) (started : os.Started) (H : Type) (enc : TypeId × Value → H) :
    ReturnsInHanded {} Try.checked os 5 .any (Rows.deriveTellsSpec.pre6 enc Try.prog Try.f5 Rows.deriveTellsRow.domain false) (Rows.deriveTellsSpec.post enc Try.prog Try.f5 false true false false) := by
  refine returnsInHanded_of_change (C := Try.checked) own started (by kernel_rfl) Try.func5
    (ChangeSpec.witness6 (enc := enc) (C := Try.checked) false ⟨#[], #[.string ⟨#[]⟩, .int .i64 0, .int .i64 0], []⟩ 8 (by kernel_rfl) (by kernel_rfl) (by kernel_rfl) (by kernel_rfl)) ?_
  intro W base args ds gs before hval0 hW hcnd _
  have hval : ∀ (j : Nat) t v, Try.f5.params[j]? = some t → args[j]? = some v → Value.okWide Try.prog W .any base t v := hval0
  have hW' := hW
  obtain ⟨p, q, hA0, hV, rfl, hfz, hnd⟩ := hW
  have hA : DataW.TrodAll enc Try.prog W 0 (fun _ => true) true Try.f5.params.toList args.toList ds p := hA0
  rw [Try.params5] at hA hval
  obtain ⟨v0, vs0, d0, ds0, p0, q0, hargs, rfl, rfl, h0, r0⟩ := trodAll_cons hA
  obtain ⟨v1, vs1, d1, ds1, p1, q1, rfl, rfl, rfl, h1, r1⟩ := trodAll_cons r0
  obtain ⟨v2, vs2, d2, ds2, p2, q2, rfl, rfl, rfl, h2, r2⟩ := trodAll_cons r1
  obtain ⟨rfl, rfl, rfl⟩ := trodAll_nil r2
  obtain rfl : args = #[v0, v1, v2] := by cases args; simp_all
  obtain ⟨rfl, rfl⟩ := trodVars_none hV
  obtain ⟨a0, rfl, rfl, rfl, w0⟩ := Go.ChangeMaps.open_string Try.underlying9 (hval 0 9 v0 rfl rfl) h0
  obtain ⟨a1, rfl, rfl, rfl, w1⟩ := open_int Try.underlying3 (hval 1 3 v1 rfl rfl) h1
  obtain ⟨a2, rfl, rfl, rfl, w2⟩ := open_int Try.underlying3 (hval 2 3 v2 rfl rfl) h2
  clear hA0 hval0
  simp only [List.append_nil] at hW'
  refine (walk a0 a1 a2 w0 w1 w2 W).mono fun e W' ⟨he, hg⟩ => ?_
  subst he
  exact ⟨_, rfl, _, _, _, _, _, [], hW', (trodAll_cons_mk (shut_bool Try.underlying4 _) trodAll_mk0), (trodAll_cons_mk (Go.ChangeMaps.shut_string Try.underlying9 w0) (trodAll_cons_mk (shut_int Try.underlying3 w1) (trodAll_cons_mk (shut_int Try.underlying3 w2) trodAll_mk0))), rfl, hg.frame _, fun h => by cases h⟩

set_option maxRecDepth 100000 in
theorem over : Rows.deriveTellsRow.holds Try.pinned (OpenSpec.ofChange Rows.deriveTellsSpec) :=
  OpenClaim.holds_of_wide 5 Try.f5 rfl rfl rfl rfl rfl rfl rfl ⟨rfl, rfl, rfl, rfl, rfl⟩ rfl rfl rfl rfl rfl (by kernel_rfl) Try.func5 (by kernel_rfl)
    (of_decide_eq_true (by kernel_rfl)) (by unfold Func.isWrapper; first | (rw [if_pos (by decide +kernel)]; kernel_rfl) | (rw [if_neg (by decide +kernel)]; exact ⟨rfl, rfl⟩))
    (fun os started H enc _ => lifted os started H enc)

theorem proved : Rows.DeriveTellsSaid :=
  over

end Go.Proofs.Ytgbfdgopinnlbaa.deriveTells
