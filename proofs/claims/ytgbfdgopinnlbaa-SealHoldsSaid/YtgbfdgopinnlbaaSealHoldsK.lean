/- The law SealHolds: what is sealed is, decrypted with its tag, the payload, and its tag is the payload's; no conditions. -/
import Derived.Test.YtgbfdgopinnlbaaRows
import Derived.WalkKit
import Derived.ProofKit
import Derived.OpenShut
import Derived.Lib.Hide
import Derived.Test.YtgbfdgopinnlbaaPk35
import Derived.Test.YtgbfdgopinnlbaaPk33
namespace Go.Proofs.Ytgbfdgopinnlbaa.sealHolds
open Go.ChangeShapes Go.WideShapes Go.ChangeAt Go.RowKit
open Aes Cmac Kdf Der Seal

set_option maxRecDepth 100000 in
set_option maxHeartbeats 4000000 in
theorem core (key top pay : ByteArray) (hk : (key.size : Int) ≤ 100) (ht : (top.size : Int) ≤ 300) (hp : (pay.size : Int) ≤ 160) (C T A B J : ByteArray)
    (c1 : Mak 33 #[.string key, .string top, .string pay] (.tuple #[.string C, .string T, .int .i64 0]))
    (c2 : Mak 27 #[.string key] (.tuple #[.string A, .string B, .int .i64 0]))
    (c3 : Mak 39 #[.string A, .string T, .string C] (.tuple #[.string pay, .int .i64 0]))
    (f1 : top ++ pay = J) (c4 : Mak 40 #[.string B, .string J] (.tuple #[.string T, .int .i64 0])) (w : World) :
    Calls Try.prog 8 #[.string key, .string top, .string pay] w fun x w' => x = .returned (.bool true) ∧ Since w w' := by
  have H0 := Lib.hid (Since.refl w)
  have t1 : decide ((100 : Int) < (key.size : Int)) = false := decide_eq_false (by omega)
  have t2 : decide ((300 : Int) < (top.size : Int)) = false := decide_eq_false (by omega)
  have t3 : decide ((160 : Int) < (pay.size : Int)) = false := decide_eq_false (by omega)
  have z1 : ¬ 9223372036854775807 < top.size + pay.size := by omega
  go_enter Try.func8, Try.ntmps8
  go_wp2_with fail
  refine c1.calls H0.out ?_
  intro w1 h1
  have H1 := Lib.hid h1
  clear h1
  go_wp2_with fail
  refine c2.calls H1.out ?_
  intro w2 h2
  have H2 := Lib.hid h2
  clear h2
  go_wp2_with fail
  refine c3.calls H2.out ?_
  intro w3 h3
  have H3 := Lib.hid h3
  clear h3
  go_wp2_with fail
  refine c4.calls H3.out ?_
  intro w4 h4
  have H4 := Lib.hid h4
  clear h4
  go_wp2_with fail
  refine awake_mak.calls H4.out ?_
  intro w5 h5
  have H5 := Lib.hid h5
  clear h5
  go_wp2_with fail
  go_ret
  exact ⟨rfl, H5.out⟩
set_option maxRecDepth 100000 in
set_option maxHeartbeats 4000000 in
theorem core_no (key top pay : ByteArray) (hk : (key.size : Int) ≤ 100) (ht : (top.size : Int) ≤ 300) (hp : (pay.size : Int) ≤ 160) (e : Int) (he : e = 2 ∨ e = 4)
    (c1 : Mak 33 #[.string key, .string top, .string pay] (.tuple #[.string ⟨#[]⟩, .string ⟨#[]⟩, .int .i64 e])) (w : World) :
    Calls Try.prog 8 #[.string key, .string top, .string pay] w fun x w' => x = .returned (.bool true) ∧ Since w w' := by
  have H0 := Lib.hid (Since.refl w)
  have t1 : decide ((100 : Int) < (key.size : Int)) = false := decide_eq_false (by omega)
  have t2 : decide ((300 : Int) < (top.size : Int)) = false := decide_eq_false (by omega)
  have t3 : decide ((160 : Int) < (pay.size : Int)) = false := decide_eq_false (by omega)
  clear hk ht hp
  rcases he with rfl | rfl
  all_goals
    go_enter Try.func8, Try.ntmps8
    go_wp2_with fail
    refine c1.calls H0.out ?_
    intro w1 h1
    have H1 := Lib.hid h1
    clear h1
    go_wp2_with fail
    refine awake_mak.calls H1.out ?_
    intro w2 h2
    have H2 := Lib.hid h2
    clear h2
    go_wp2_with fail
    go_ret
    exact ⟨rfl, H2.out⟩
set_option maxRecDepth 100000 in
theorem core_big (key top pay : ByteArray)  (hb : 100 < key.size ∨ 300 < top.size ∨ 160 < pay.size) (w : World) :
    Calls Try.prog 8 #[.string key, .string top, .string pay] w fun x w' => x = .returned (.bool true) ∧ Since w w' := by
  have H0 := Lib.hid (Since.refl w)
  by_cases h1 : 100 < key.size
  · have t1 : decide ((100 : Int) < (key.size : Int)) = true := decide_eq_true (by omega)
    clear hb h1
    go_enter Try.func8, Try.ntmps8
    go_wp2_with fail
    refine awake_mak.calls H0.out ?_
    intro w1 h1
    have H1 := Lib.hid h1
    clear h1
    go_wp2_with fail
    go_ret
    exact ⟨rfl, H1.out⟩
  · have t1 : decide ((100 : Int) < (key.size : Int)) = false := decide_eq_false (by omega)
    by_cases h2 : 300 < top.size
    · have t2 : decide ((300 : Int) < (top.size : Int)) = true := decide_eq_true (by omega)
      clear hb h1 h2
      go_enter Try.func8, Try.ntmps8
      go_wp2_with fail
      refine awake_mak.calls H0.out ?_
      intro w1 h1
      have H1 := Lib.hid h1
      clear h1
      go_wp2_with fail
      go_ret
      exact ⟨rfl, H1.out⟩
    · have t2 : decide ((300 : Int) < (top.size : Int)) = false := decide_eq_false (by omega)
      have t3 : decide ((160 : Int) < (pay.size : Int)) = true := decide_eq_true (by omega)
      clear hb h1 h2
      go_enter Try.func8, Try.ntmps8
      go_wp2_with fail
      refine awake_mak.calls H0.out ?_
      intro w1 h1
      have H1 := Lib.hid h1
      clear h1
      go_wp2_with fail
      go_ret
      exact ⟨rfl, H1.out⟩
set_option maxRecDepth 100000 in
theorem walk (a0 a1 a2 : ByteArray) (_w0 : a0.size ≤ maxLen) (_w1 : a1.size ≤ maxLen) (_w2 : a2.size ≤ maxLen) (w : World) :
    Calls Try.prog 8 #[.string a0, .string a1, .string a2] w fun e w' => e = .returned (.bool true) ∧ Below w.heap.size w w' := by
  by_cases hb : 100 < a0.size ∨ 300 < a1.size ∨ 160 < a2.size
  · exact core_big a0 a1 a2 hb w
  · by_cases h1 : keyOk a0
    · by_cases h2 : payOk a2
      · exact core a0 a1 a2 (by omega) (by omega) (by omega) _ _ _ _ _ (seal_yes a0 a1 a2 h1 h2 (by omega) _ _ rfl rfl) (RefDer.keys_yes a0 h1 _ _ rfl rfl) (RefCbc.dec_yes (derK a0 0) (bindK a0 a1 a2) (cipK a0 a1 a2) (derK_ok a0 h1 0) (bindK_size _ _ _) (by rw [cipK_size _ _ _ h2]; exact h2.1) (by rw [cipK_size _ _ _ h2]; omega) a2 (Cbc.dec_encC _ _ a2 (bindK_size _ _ _) h2.1).symm) (app_joinS a1 a2) (RefCmac.tag_yes (derK a0 1) (joinS a1 a2) (derK_ok a0 h1 1) (by rw [joinS_size]; omega) _ rfl) w
      · exact core_no a0 a1 a2 (by omega) (by omega) (by omega) 4 (Or.inr rfl) (seal_bad a0 a1 a2 4 rfl (bind_nosize a0 a1 a2 h1 h2 (by omega))) w
    · exact core_no a0 a1 a2 (by omega) (by omega) (by omega) 2 (Or.inl rfl) (seal_bad a0 a1 a2 2 rfl (bind_nokey a0 a1 a2 (by omega) h1)) w

set_option maxRecDepth 100000 in
theorem own : ownKnob Try.prog.godebug = none := by kernel_rfl

set_option maxRecDepth 100000 in
theorem lifted (os : Os) (started : os.Started) (H : Type) (enc : TypeId × Value → H) :
    ReturnsInHanded {} Try.checked os 8 .any (Rows.sealHoldsSpec.pre6 enc Try.prog Try.f8 Rows.sealHoldsRow.domain false) (Rows.sealHoldsSpec.post enc Try.prog Try.f8 false true false false) := by
  refine returnsInHanded_of_change (C := Try.checked) own started (by kernel_rfl) Try.func8
    (ChangeSpec.witness6 (enc := enc) (C := Try.checked) false ⟨#[], #[.string ⟨#[]⟩, .string ⟨#[]⟩, .string ⟨#[]⟩], []⟩ 8 (by kernel_rfl) (by kernel_rfl) (by kernel_rfl) (by kernel_rfl)) ?_
  intro W base args ds gs before hval0 hW hcnd _
  have hval : ∀ (j : Nat) t v, Try.f8.params[j]? = some t → args[j]? = some v → Value.okWide Try.prog W .any base t v := hval0
  have hW' := hW
  obtain ⟨p, q, hA0, hV, rfl, hfz, hnd⟩ := hW
  have hA : DataW.TrodAll enc Try.prog W 0 (fun _ => true) true Try.f8.params.toList args.toList ds p := hA0
  rw [Try.params8] at hA hval
  obtain ⟨v0, vs0, d0, ds0, p0, q0, hargs, rfl, rfl, h0, r0⟩ := trodAll_cons hA
  obtain ⟨v1, vs1, d1, ds1, p1, q1, rfl, rfl, rfl, h1, r1⟩ := trodAll_cons r0
  obtain ⟨v2, vs2, d2, ds2, p2, q2, rfl, rfl, rfl, h2, r2⟩ := trodAll_cons r1
  obtain ⟨rfl, rfl, rfl⟩ := trodAll_nil r2
  obtain rfl : args = #[v0, v1, v2] := by cases args; simp_all
  obtain ⟨rfl, rfl⟩ := trodVars_none hV
  obtain ⟨a0, rfl, rfl, rfl, w0⟩ := Go.ChangeMaps.open_string Try.underlying9 (hval 0 9 v0 rfl rfl) h0
  obtain ⟨a1, rfl, rfl, rfl, w1⟩ := Go.ChangeMaps.open_string Try.underlying9 (hval 1 9 v1 rfl rfl) h1
  obtain ⟨a2, rfl, rfl, rfl, w2⟩ := Go.ChangeMaps.open_string Try.underlying9 (hval 2 9 v2 rfl rfl) h2
  clear hA0 hval0
  simp only [List.append_nil] at hW'
  refine (walk a0 a1 a2 w0 w1 w2 W).mono fun e W' ⟨he, hg⟩ => ?_
  subst he
  exact ⟨_, rfl, _, _, _, _, _, [], hW', (trodAll_cons_mk (shut_bool Try.underlying4 _) trodAll_mk0), (trodAll_cons_mk (Go.ChangeMaps.shut_string Try.underlying9 w0) (trodAll_cons_mk (Go.ChangeMaps.shut_string Try.underlying9 w1) (trodAll_cons_mk (Go.ChangeMaps.shut_string Try.underlying9 w2) trodAll_mk0))), rfl, hg.frame _, fun h => by cases h⟩

set_option maxRecDepth 100000 in
theorem over : Rows.sealHoldsRow.holds Try.pinned (OpenSpec.ofChange Rows.sealHoldsSpec) :=
  OpenClaim.holds_of_wide 8 Try.f8 rfl rfl rfl rfl rfl rfl rfl ⟨rfl, rfl, rfl, rfl, rfl⟩ rfl rfl rfl rfl rfl (by kernel_rfl) Try.func8 (by kernel_rfl)
    (of_decide_eq_true (by kernel_rfl)) (by unfold Func.isWrapper; first | (rw [if_pos (by decide +kernel)]; kernel_rfl) | (rw [if_neg (by decide +kernel)]; exact ⟨rfl, rfl⟩))
    (fun os started H enc _ => lifted os started H enc)

theorem proved : Rows.SealHoldsSaid :=
  over

end Go.Proofs.Ytgbfdgopinnlbaa.sealHolds
