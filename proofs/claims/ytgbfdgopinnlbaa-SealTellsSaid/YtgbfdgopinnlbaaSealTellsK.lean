/- The law SealTells: any payload, with any top, is sealed as the document says, or why not; no conditions. -/
import Derived.Test.YtgbfdgopinnlbaaRows
import Derived.WalkKit
import Derived.ProofKit
import Derived.OpenShut
import Derived.Lib.Hide
import Derived.Test.YtgbfdgopinnlbaaPk35
namespace Go.Proofs.Ytgbfdgopinnlbaa.sealTells
open Go.ChangeShapes Go.WideShapes Go.ChangeAt Go.RowKit
open Aes Cmac Kdf Der Seal

set_option maxRecDepth 100000 in
set_option maxHeartbeats 4000000 in
theorem core (key top pay : ByteArray) (n m : Int) (hk : (key.size : Int) ≤ 100) (ht : (top.size : Int) ≤ 300) (hp : (pay.size : Int) ≤ 160) (A B X : ByteArray) (e f x : Int)
    (c1 : Mak 33 #[.string key, .string top, .string pay] (.tuple #[.string A, .string B, .int .i64 e])) (c2 : Mak 34 #[.string key, .string top, .string pay] (.tuple #[.string A, .string B, .int .i64 e]))
    (c3 : Mak 35 #[.string key, .string top, .string pay] (.tuple #[.string X, .int .i64 f])) (c4 : Mak 36 #[.string key, .string top, .string pay] (.tuple #[.string X, .int .i64 f]))
    (c5 : Ret 37 #[.int .i64 n, .int .i64 m] (.int .i64 x)) (c6 : Ret 38 #[.int .i64 n, .int .i64 m] (.int .i64 x)) (w : World) :
    Calls Try.prog 7 #[.string key, .string top, .string pay, .int .i64 n, .int .i64 m] w fun x w' => x = .returned (.bool true) ∧ Since w w' := by
  have H0 := Lib.hid (Since.refl w)
  have t1 : decide ((100 : Int) < (key.size : Int)) = false := decide_eq_false (by omega)
  have t2 : decide ((300 : Int) < (top.size : Int)) = false := decide_eq_false (by omega)
  have t3 : decide ((160 : Int) < (pay.size : Int)) = false := decide_eq_false (by omega)
  go_enter Try.func7, Try.ntmps7
  go_wp2_with fail
  refine c1.calls H0.out ?_
  intro w1 h1
  have H1 := Lib.hid h1
  clear h1
  go_wp2_with fail
  refine c2.calls H1.out ?_
  intro w2 h2
  have H2 := Lib.hid h2
  clear h2
  go_wp2_with fail
  refine c3.calls H2.out ?_
  intro w3 h3
  have H3 := Lib.hid h3
  clear h3
  go_wp2_with fail
  refine c4.calls H3.out ?_
  intro w4 h4
  have H4 := Lib.hid h4
  clear h4
  go_wp2_with fail
  refine (c5).calls ?_
  go_wp2_with fail
  refine (c6).calls ?_
  go_wp2_with fail
  refine awake_mak.calls H4.out ?_
  intro w5 h5
  have H5 := Lib.hid h5
  clear h5
  go_wp2_with fail
  go_ret
  exact ⟨rfl, H5.out⟩
set_option maxRecDepth 100000 in
theorem core_big (key top pay : ByteArray) (n m : Int) (hb : 100 < key.size ∨ 300 < top.size ∨ 160 < pay.size) (w : World) :
    Calls Try.prog 7 #[.string key, .string top, .string pay, .int .i64 n, .int .i64 m] w fun x w' => x = .returned (.bool true) ∧ Since w w' := by
  have H0 := Lib.hid (Since.refl w)
  by_cases h1 : 100 < key.size
  · have t1 : decide ((100 : Int) < (key.size : Int)) = true := decide_eq_true (by omega)
    clear hb h1
    go_enter Try.func7, Try.ntmps7
    go_wp2_with fail
    refine awake_mak.calls H0.out ?_
    intro w1 h1
    have H1 := Lib.hid h1
    clear h1
    go_wp2_with fail
    go_ret
    exact ⟨rfl, H1.out⟩
  · have t1 : decide ((100 : Int) < (key.size : Int)) = false := decide_eq_false (by omega)
    by_cases h2 : 300 < top.size
    · have t2 : decide ((300 : Int) < (top.size : Int)) = true := decide_eq_true (by omega)
      clear hb h1 h2
      go_enter Try.func7, Try.ntmps7
      go_wp2_with fail
      refine awake_mak.calls H0.out ?_
      intro w1 h1
      have H1 := Lib.hid h1
      clear h1
      go_wp2_with fail
      go_ret
      exact ⟨rfl, H1.out⟩
    · have t2 : decide ((300 : Int) < (top.size : Int)) = false := decide_eq_false (by omega)
      have t3 : decide ((160 : Int) < (pay.size : Int)) = true := decide_eq_true (by omega)
      clear hb h1 h2
      go_enter Try.func7, Try.ntmps7
      go_wp2_with fail
      refine awake_mak.calls H0.out ?_
      intro w1 h1
      have H1 := Lib.hid h1
      clear h1
      go_wp2_with fail
      go_ret
      exact ⟨rfl, H1.out⟩
theorem both (key top pay : ByteArray) (hk : key.size ≤ 100) (ht : top.size ≤ 300) (hp : pay.size ≤ 160) : ∃ A B X e f, Mak 33 #[.string key, .string top, .string pay] (.tuple #[.string A, .string B, .int .i64 e]) ∧ Mak 34 #[.string key, .string top, .string pay] (.tuple #[.string A, .string B, .int .i64 e]) ∧ Mak 35 #[.string key, .string top, .string pay] (.tuple #[.string X, .int .i64 f]) ∧ Mak 36 #[.string key, .string top, .string pay] (.tuple #[.string X, .int .i64 f]) := by
  by_cases h1 : keyOk key
  · by_cases h2 : payOk pay
    · exact ⟨_, _, _, _, _, seal_yes key top pay h1 h2 (by omega) _ _ rfl rfl, rseal_yes key top pay h1 h2 (by omega) _ _ rfl rfl, bind_yes key top pay h1 h2 (by omega) _ rfl, rbind_yes key top pay h1 h2 (by omega) _ rfl⟩
    · have b1 := bind_nosize key top pay h1 h2 (by omega)
      have b2 := rbind_nosize key top pay h1 h2 (by omega)
      exact ⟨_, _, _, _, _, seal_bad key top pay 4 rfl b1, rseal_bad key top pay 4 rfl b2, b1, b2⟩
  · have b1 := bind_nokey key top pay (by omega) h1
    have b2 := rbind_nokey key top pay (by omega) h1
    exact ⟨_, _, _, _, _, seal_bad key top pay 2 rfl b1, rseal_bad key top pay 2 rfl b2, b1, b2⟩
set_option maxRecDepth 100000 in
theorem walk (a0 a1 a2 : ByteArray) (a3 a4 : Int) (_w0 : a0.size ≤ maxLen) (_w1 : a1.size ≤ maxLen) (_w2 : a2.size ≤ maxLen) (_w3 : (Lit.int .i64 a3).wf = true) (_w4 : (Lit.int .i64 a4).wf = true) (w : World) :
    Calls Try.prog 7 #[.string a0, .string a1, .string a2, .int .i64 a3, .int .i64 a4] w fun e w' => e = .returned (.bool true) ∧ Below w.heap.size w w' := by
  by_cases hb : 100 < a0.size ∨ 300 < a1.size ∨ 160 < a2.size
  · exact core_big a0 a1 a2 a3 a4 hb w
  · obtain ⟨A, B, X, e, f, q1, q2, q3, q4⟩ := both a0 a1 a2 (by omega) (by omega) (by omega)
    exact core a0 a1 a2 a3 a4 (by omega) (by omega) (by omega) A B X e f _ q1 q2 q3 q4 (blocks_ret a3 a4 _ rfl) (rblocks_ret a3 a4 _ rfl) w

set_option maxRecDepth 100000 in
theorem own : ownKnob Try.prog.godebug = none := by kernel_rfl

set_option maxRecDepth 100000 in
theorem lifted (os : Os) (started : os.Started) (H : Type) (enc : TypeId × Value → H) :
    ReturnsInHanded {} Try.checked os 7 .any (Rows.sealTellsSpec.pre6 enc Try.prog Try.f7 Rows.sealTellsRow.domain false) (Rows.sealTellsSpec.post enc Try.prog Try.f7 false true false false) := by
  refine returnsInHanded_of_change (C := Try.checked) own started (by kernel_rfl) Try.func7
    (ChangeSpec.witness6 (enc := enc) (C := Try.checked) false ⟨#[], #[.string ⟨#[]⟩, .string ⟨#[]⟩, .string ⟨#[]⟩, .int .i64 0, .int .i64 0], []⟩ 8 (by kernel_rfl) (by kernel_rfl) (by kernel_rfl) (by kernel_rfl)) ?_
  intro W base args ds gs before hval0 hW hcnd _
  have hval : ∀ (j : Nat) t v, Try.f7.params[j]? = some t → args[j]? = some v → Value.okWide Try.prog W .any base t v := hval0
  have hW' := hW
  obtain ⟨p, q, hA0, hV, rfl, hfz, hnd⟩ := hW
  have hA : DataW.TrodAll enc Try.prog W 0 (fun _ => true) true Try.f7.params.toList args.toList ds p := hA0
  rw [Try.params7] at hA hval
  obtain ⟨v0, vs0, d0, ds0, p0, q0, hargs, rfl, rfl, h0, r0⟩ := trodAll_cons hA
  obtain ⟨v1, vs1, d1, ds1, p1, q1, rfl, rfl, rfl, h1, r1⟩ := trodAll_cons r0
  obtain ⟨v2, vs2, d2, ds2, p2, q2, rfl, rfl, rfl, h2, r2⟩ := trodAll_cons r1
  obtain ⟨v3, vs3, d3, ds3, p3, q3, rfl, rfl, rfl, h3, r3⟩ := trodAll_cons r2
  obtain ⟨v4, vs4, d4, ds4, p4, q4, rfl, rfl, rfl, h4, r4⟩ := trodAll_cons r3
  obtain ⟨rfl, rfl, rfl⟩ := trodAll_nil r4
  obtain rfl : args = #[v0, v1, v2, v3, v4] := by cases args; simp_all
  obtain ⟨rfl, rfl⟩ := trodVars_none hV
  obtain ⟨a0, rfl, rfl, rfl, w0⟩ := Go.ChangeMaps.open_string Try.underlying9 (hval 0 9 v0 rfl rfl) h0
  obtain ⟨a1, rfl, rfl, rfl, w1⟩ := Go.ChangeMaps.open_string Try.underlying9 (hval 1 9 v1 rfl rfl) h1
  obtain ⟨a2, rfl, rfl, rfl, w2⟩ := Go.ChangeMaps.open_string Try.underlying9 (hval 2 9 v2 rfl rfl) h2
  obtain ⟨a3, rfl, rfl, rfl, w3⟩ := open_int Try.underlying3 (hval 3 3 v3 rfl rfl) h3
  obtain ⟨a4, rfl, rfl, rfl, w4⟩ := open_int Try.underlying3 (hval 4 3 v4 rfl rfl) h4
  clear hA0 hval0
  simp only [List.append_nil] at hW'
  refine (walk a0 a1 a2 a3 a4 w0 w1 w2 w3 w4 W).mono fun e W' ⟨he, hg⟩ => ?_
  subst he
  exact ⟨_, rfl, _, _, _, _, _, [], hW', (trodAll_cons_mk (shut_bool Try.underlying4 _) trodAll_mk0), (trodAll_cons_mk (Go.ChangeMaps.shut_string Try.underlying9 w0) (trodAll_cons_mk (Go.ChangeMaps.shut_string Try.underlying9 w1) (trodAll_cons_mk (Go.ChangeMaps.shut_string Try.underlying9 w2) (trodAll_cons_mk (shut_int Try.underlying3 w3) (trodAll_cons_mk (shut_int Try.underlying3 w4) trodAll_mk0))))), rfl, hg.frame _, fun h => by cases h⟩

set_option maxRecDepth 100000 in
theorem over : Rows.sealTellsRow.holds Try.pinned (OpenSpec.ofChange Rows.sealTellsSpec) :=
  OpenClaim.holds_of_wide 7 Try.f7 rfl rfl rfl rfl rfl rfl rfl ⟨rfl, rfl, rfl, rfl, rfl⟩ rfl rfl rfl rfl rfl (by kernel_rfl) Try.func7 (by kernel_rfl)
    (of_decide_eq_true (by kernel_rfl)) (by unfold Func.isWrapper; first | (rw [if_pos (by decide +kernel)]; kernel_rfl) | (rw [if_neg (by decide +kernel)]; exact ⟨rfl, rfl⟩))
    (fun os started H enc _ => lifted os started H enc)

theorem proved : Rows.SealTellsSaid :=
  over

end Go.Proofs.Ytgbfdgopinnlbaa.sealTells
