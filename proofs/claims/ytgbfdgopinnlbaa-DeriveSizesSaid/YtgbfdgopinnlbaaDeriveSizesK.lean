/- The law DeriveSizes: both keys have as many bytes as the one out of which they come, and are those of their purposes; no conditions. -/
import Derived.Test.YtgbfdgopinnlbaaRows
import Derived.WalkKit
import Derived.ProofKit
import Derived.OpenShut
import Derived.Lib.Hide
import Derived.Test.YtgbfdgopinnlbaaPk35
namespace Go.Proofs.Ytgbfdgopinnlbaa.deriveSizes
open Go.ChangeShapes Go.WideShapes Go.ChangeAt Go.RowKit
open Aes Cmac Kdf Der

set_option maxRecDepth 100000 in
set_option maxHeartbeats 4000000 in
theorem core (key : ByteArray) (hk : (key.size : Int) ≤ 100) (A B : ByteArray) (ha : A.size = key.size) (hb : B.size = key.size)
    (c1 : Mak 26 #[.string key] (.tuple #[.string A, .string B, .int .i64 0]))
    (c2 : Mak 28 #[.string key, .int .i64 0] (.tuple #[.string A, .int .i64 0])) (c3 : Mak 28 #[.string key, .int .i64 1] (.tuple #[.string B, .int .i64 0])) (w : World) :
    Calls Try.prog 6 #[.string key] w fun x w' => x = .returned (.bool true) ∧ Since w w' := by
  have H0 := Lib.hid (Since.refl w)
  have t1 : decide ((100 : Int) < (key.size : Int)) = false := decide_eq_false (by omega)
  have e1 : ((A.size : Int) == (key.size : Int)) = true := by rw [ha]; exact beq_self_eq_true _
  have e2 : ((B.size : Int) == (key.size : Int)) = true := by rw [hb]; exact beq_self_eq_true _
  clear hk ha hb
  go_enter Try.func6, Try.ntmps6
  go_wp2_with fail
  refine c1.calls H0.out ?_
  intro w1 h1
  have H1 := Lib.hid h1
  clear h1
  go_wp2_with fail
  refine c2.calls H1.out ?_
  intro w2 h2
  have H2 := Lib.hid h2
  clear h2
  go_wp2_with fail
  refine c3.calls H2.out ?_
  intro w3 h3
  have H3 := Lib.hid h3
  clear h3
  go_wp2_with fail
  refine awake_mak.calls H3.out ?_
  intro w4 h4
  have H4 := Lib.hid h4
  clear h4
  go_wp2_with fail
  go_ret
  exact ⟨rfl, H4.out⟩
set_option maxRecDepth 100000 in
theorem core_no (key : ByteArray) (hk : (key.size : Int) ≤ 100) (c1 : Ret 26 #[.string key] (.tuple #[.string ⟨#[]⟩, .string ⟨#[]⟩, .int .i64 2])) (w : World) :
    Calls Try.prog 6 #[.string key] w fun x w' => x = .returned (.bool true) ∧ Since w w' := by
  have H0 := Lib.hid (Since.refl w)
  have t1 : decide ((100 : Int) < (key.size : Int)) = false := decide_eq_false (by omega)
  clear hk
  go_enter Try.func6, Try.ntmps6
  go_wp2_with fail
  refine (c1).calls ?_
  go_wp2_with fail
  refine awake_mak.calls H0.out ?_
  intro w1 h1
  have H1 := Lib.hid h1
  clear h1
  go_wp2_with fail
  go_ret
  exact ⟨rfl, H1.out⟩
set_option maxRecDepth 100000 in
theorem core_big (key : ByteArray) (hb : (100 : Int) < (key.size : Int)) (w : World) :
    Calls Try.prog 6 #[.string key] w fun x w' => x = .returned (.bool true) ∧ Since w w' := by
  have H0 := Lib.hid (Since.refl w)
  have t1 : decide ((100 : Int) < (key.size : Int)) = true := decide_eq_true (by omega)
  clear hb
  go_enter Try.func6, Try.ntmps6
  go_wp2_with fail
  refine awake_mak.calls H0.out ?_
  intro w1 h1
  have H1 := Lib.hid h1
  clear h1
  go_wp2_with fail
  go_ret
  exact ⟨rfl, H1.out⟩
set_option maxRecDepth 100000 in
theorem walk (a0 : ByteArray) (_w0 : a0.size ≤ maxLen) (w : World) :
    Calls Try.prog 6 #[.string a0] w fun e w' => e = .returned (.bool true) ∧ Below w.heap.size w w' := by
  by_cases hb : 100 < a0.size
  · exact core_big a0 (by omega) w
  · by_cases hk : keyOk a0
    · exact core a0 (by omega) _ _ (derK_size a0 hk 0) (derK_size a0 hk 1) (keys_yes a0 hk _ _ rfl rfl) (key_yes a0 0 hk (by decide) _ rfl) (key_yes a0 1 hk (by decide) _ rfl) w
    · exact core_no a0 (by omega) (keys_nokey a0 hk) w

set_option maxRecDepth 100000 in
theorem own : ownKnob Try.prog.godebug = none := by kernel_rfl

set_option maxRecDepth 100000 in
theorem lifted (os : Os) (started : os.Started) (H : Type) (enc : TypeId × Value → H) :
    ReturnsInHanded {} Try.checked os 6 .any (Rows.deriveSizesSpec.pre6 enc Try.prog Try.f6 Rows.deriveSizesRow.domain false) (Rows.deriveSizesSpec.post enc Try.prog Try.f6 false true false false) := by
  refine returnsInHanded_of_change (C := Try.checked) own started (by kernel_rfl) Try.func6
    (ChangeSpec.witness6 (enc := enc) (C := Try.checked) false ⟨#[], #[.string ⟨#[]⟩], []⟩ 8 (by kernel_rfl) (by kernel_rfl) (by kernel_rfl) (by kernel_rfl)) ?_
  intro W base args ds gs before hval0 hW hcnd _
  have hval : ∀ (j : Nat) t v, Try.f6.params[j]? = some t → args[j]? = some v → Value.okWide Try.prog W .any base t v := hval0
  have hW' := hW
  obtain ⟨p, q, hA0, hV, rfl, hfz, hnd⟩ := hW
  have hA : DataW.TrodAll enc Try.prog W 0 (fun _ => true) true Try.f6.params.toList args.toList ds p := hA0
  rw [Try.params6] at hA hval
  obtain ⟨v0, vs0, d0, ds0, p0, q0, hargs, rfl, rfl, h0, r0⟩ := trodAll_cons hA
  obtain ⟨rfl, rfl, rfl⟩ := trodAll_nil r0
  obtain rfl : args = #[v0] := by cases args; simp_all
  obtain ⟨rfl, rfl⟩ := trodVars_none hV
  obtain ⟨a0, rfl, rfl, rfl, w0⟩ := Go.ChangeMaps.open_string Try.underlying9 (hval 0 9 v0 rfl rfl) h0
  clear hA0 hval0
  simp only [List.append_nil] at hW'
  refine (walk a0 w0 W).mono fun e W' ⟨he, hg⟩ => ?_
  subst he
  exact ⟨_, rfl, _, _, _, _, _, [], hW', (trodAll_cons_mk (shut_bool Try.underlying4 _) trodAll_mk0), (trodAll_cons_mk (Go.ChangeMaps.shut_string Try.underlying9 w0) trodAll_mk0), rfl, hg.frame _, fun h => by cases h⟩

set_option maxRecDepth 100000 in
theorem over : Rows.deriveSizesRow.holds Try.pinned (OpenSpec.ofChange Rows.deriveSizesSpec) :=
  OpenClaim.holds_of_wide 6 Try.f6 rfl rfl rfl rfl rfl rfl rfl ⟨rfl, rfl, rfl, rfl, rfl⟩ rfl rfl rfl rfl rfl (by kernel_rfl) Try.func6 (by kernel_rfl)
    (of_decide_eq_true (by kernel_rfl)) (by unfold Func.isWrapper; first | (rw [if_pos (by decide +kernel)]; kernel_rfl) | (rw [if_neg (by decide +kernel)]; exact ⟨rfl, rfl⟩))
    (fun os started H enc _ => lifted os started H enc)

theorem proved : Rows.DeriveSizesSaid :=
  over

end Go.Proofs.Ytgbfdgopinnlbaa.deriveSizes
