/- The law OpenBinds: with a right tag, and another top or cipher beside it, nothing is opened, unless both tops and payloads, joined, have one tag; no conditions. -/
import Derived.Test.YtgbfdgopinnlbaaRows
import Derived.WalkKit
import Derived.ProofKit
import Derived.OpenShut
import Derived.Lib.Hide
import Derived.Test.YtgbfdgopinnlbaaPk36
namespace Go.Proofs.Ytgbfdgopinnlbaa.openBinds
open Go.ChangeShapes Go.WideShapes Go.ChangeAt Go.RowKit
open Aes Cmac Kdf Der Seal Opn

set_option maxRecDepth 100000 in
set_option maxHeartbeats 4000000 in
theorem core_y (key top pay other c : ByteArray) (h1 : key.size ≤ 100) (h2 : top.size ≤ 300) (h3 : pay.size ≤ 160) (h4 : other.size ≤ 300) (h5 : c.size ≤ 160) (C T P A B J K : ByteArray)
    (c1 : Mak 34 #[.string key, .string top, .string pay] (.tuple #[.string C, .string T, .int .i64 0]))
    (c2 : Mak 42 #[.string key, .string other, .string c, .string T] (.tuple #[.string P, .int .i64 0]))
    (c3 : Mak 27 #[.string key] (.tuple #[.string A, .string B, .int .i64 0]))
    (c4 : Mak 39 #[.string A, .string T, .string c] (.tuple #[.string P, .int .i64 0]))
    (f1 : top ++ pay = J) (f2 : other ++ P = K) (z1 : ¬ 9223372036854775807 < top.size + pay.size) (z2 : ¬ 9223372036854775807 < other.size + P.size)
    (c5 : Mak 40 #[.string B, .string J] (.tuple #[.string T, .int .i64 0])) (c6 : Mak 40 #[.string B, .string K] (.tuple #[.string T, .int .i64 0])) (w : World) :
    Calls Try.prog 11 #[.string key, .string top, .string pay, .string other, .string c] w fun x w' => x = .returned (.bool true) ∧ Since w w' := by
  have H0 := Lib.hid (Since.refl w)
  have t_key : decide ((100 : Int) < (key.size : Int)) = false := decide_eq_false (by omega)
  have t_top : decide ((300 : Int) < (top.size : Int)) = false := decide_eq_false (by omega)
  have t_pay : decide ((160 : Int) < (pay.size : Int)) = false := decide_eq_false (by omega)
  have t_other : decide ((300 : Int) < (other.size : Int)) = false := decide_eq_false (by omega)
  have t_c : decide ((160 : Int) < (c.size : Int)) = false := decide_eq_false (by omega)
  clear h1 h2 h3 h4 h5
  go_enter Try.func11, Try.ntmps11
  go_wp2_with fail
  refine c1.calls H0.out ?_
  intro w1 h1
  have H1 := Lib.hid h1
  clear h1
  go_wp2_with fail
  refine c2.calls H1.out ?_
  intro w2 h2
  have H2 := Lib.hid h2
  clear h2
  go_wp2_with fail
  refine c3.calls H2.out ?_
  intro w3 h3
  have H3 := Lib.hid h3
  clear h3
  go_wp2_with fail
  refine c4.calls H3.out ?_
  intro w4 h4
  have H4 := Lib.hid h4
  clear h4
  go_wp2_with fail
  refine c5.calls H4.out ?_
  intro w5 h5
  have H5 := Lib.hid h5
  clear h5
  go_wp2_with fail
  refine c6.calls H5.out ?_
  intro w6 h6
  have H6 := Lib.hid h6
  clear h6
  go_wp2_with fail
  refine awake_mak.calls H6.out ?_
  intro w7 h7
  have H7 := Lib.hid h7
  clear h7
  go_wp2_with fail
  go_ret
  exact ⟨rfl, H7.out⟩
set_option maxRecDepth 100000 in
set_option maxHeartbeats 4000000 in
theorem core_n (key top pay other c : ByteArray) (h1 : key.size ≤ 100) (h2 : top.size ≤ 300) (h3 : pay.size ≤ 160) (h4 : other.size ≤ 300) (h5 : c.size ≤ 160) (C T : ByteArray) (e : Int) (he : e = 4 ∨ e = 7)
    (c1 : Mak 34 #[.string key, .string top, .string pay] (.tuple #[.string C, .string T, .int .i64 0]))
    (c2 : Mak 42 #[.string key, .string other, .string c, .string T] (.tuple #[.string ⟨#[]⟩, .int .i64 e])) (w : World) :
    Calls Try.prog 11 #[.string key, .string top, .string pay, .string other, .string c] w fun x w' => x = .returned (.bool true) ∧ Since w w' := by
  have H0 := Lib.hid (Since.refl w)
  have t_key : decide ((100 : Int) < (key.size : Int)) = false := decide_eq_false (by omega)
  have t_top : decide ((300 : Int) < (top.size : Int)) = false := decide_eq_false (by omega)
  have t_pay : decide ((160 : Int) < (pay.size : Int)) = false := decide_eq_false (by omega)
  have t_other : decide ((300 : Int) < (other.size : Int)) = false := decide_eq_false (by omega)
  have t_c : decide ((160 : Int) < (c.size : Int)) = false := decide_eq_false (by omega)
  clear h1 h2 h3 h4 h5
  rcases he with rfl | rfl
  all_goals
    go_enter Try.func11, Try.ntmps11
    go_wp2_with fail
    refine c1.calls H0.out ?_
    intro w1 h1
    have H1 := Lib.hid h1
    clear h1
    go_wp2_with fail
    refine c2.calls H1.out ?_
    intro w2 h2
    have H2 := Lib.hid h2
    clear h2
    go_wp2_with fail
    refine awake_mak.calls H2.out ?_
    intro w3 h3
    have H3 := Lib.hid h3
    clear h3
    go_wp2_with fail
    go_ret
    exact ⟨rfl, H3.out⟩
set_option maxRecDepth 100000 in
set_option maxHeartbeats 4000000 in
theorem core_k (key top pay other c : ByteArray) (h1 : key.size ≤ 100) (h2 : top.size ≤ 300) (h3 : pay.size ≤ 160) (h4 : other.size ≤ 300) (h5 : c.size ≤ 160) (k : Int) (_hk : (k == 0) = false) (hk2 : (k != 0) = true)
    (c1 : Mak 34 #[.string key, .string top, .string pay] (.tuple #[.string ⟨#[]⟩, .string ⟨#[]⟩, .int .i64 k])) (w : World) :
    Calls Try.prog 11 #[.string key, .string top, .string pay, .string other, .string c] w fun x w' => x = .returned (.bool true) ∧ Since w w' := by
  have H0 := Lib.hid (Since.refl w)
  have t_key : decide ((100 : Int) < (key.size : Int)) = false := decide_eq_false (by omega)
  have t_top : decide ((300 : Int) < (top.size : Int)) = false := decide_eq_false (by omega)
  have t_pay : decide ((160 : Int) < (pay.size : Int)) = false := decide_eq_false (by omega)
  have t_other : decide ((300 : Int) < (other.size : Int)) = false := decide_eq_false (by omega)
  have t_c : decide ((160 : Int) < (c.size : Int)) = false := decide_eq_false (by omega)
  clear h1 h2 h3 h4 h5
  go_enter Try.func11, Try.ntmps11
  go_wp2_with fail
  refine c1.calls H0.out ?_
  intro w1 h1
  have H1 := Lib.hid h1
  clear h1
  go_wp2_with fail
  refine awake_mak.calls H1.out ?_
  intro w2 h2
  have H2 := Lib.hid h2
  clear h2
  go_wp2_with fail
  go_ret
  exact ⟨rfl, H2.out⟩
set_option maxRecDepth 100000 in
set_option maxHeartbeats 4000000 in
theorem core_big (key top pay other c : ByteArray) (hb : 100 < key.size ∨ 300 < top.size ∨ 160 < pay.size ∨ 300 < other.size ∨ 160 < c.size) (w : World) :
    Calls Try.prog 11 #[.string key, .string top, .string pay, .string other, .string c] w fun x w' => x = .returned (.bool true) ∧ Since w w' := by
  have H0 := Lib.hid (Since.refl w)
  by_cases h_key : 100 < key.size
  · have t_key : decide ((100 : Int) < (key.size : Int)) = true := decide_eq_true (by omega)
    clear hb h_key
    go_enter Try.func11, Try.ntmps11
    go_wp2_with fail
    refine awake_mak.calls H0.out ?_
    intro w1 h1
    have H1 := Lib.hid h1
    clear h1
    go_wp2_with fail
    go_ret
    exact ⟨rfl, H1.out⟩
  · have t_key : decide ((100 : Int) < (key.size : Int)) = false := decide_eq_false (by omega)
    by_cases h_top : 300 < top.size
    · have t_top : decide ((300 : Int) < (top.size : Int)) = true := decide_eq_true (by omega)
      clear hb h_key h_top
      go_enter Try.func11, Try.ntmps11
      go_wp2_with fail
      refine awake_mak.calls H0.out ?_
      intro w1 h1
      have H1 := Lib.hid h1
      clear h1
      go_wp2_with fail
      go_ret
      exact ⟨rfl, H1.out⟩
    · have t_top : decide ((300 : Int) < (top.size : Int)) = false := decide_eq_false (by omega)
      by_cases h_pay : 160 < pay.size
      · have t_pay : decide ((160 : Int) < (pay.size : Int)) = true := decide_eq_true (by omega)
        clear hb h_key h_top h_pay
        go_enter Try.func11, Try.ntmps11
        go_wp2_with fail
        refine awake_mak.calls H0.out ?_
        intro w1 h1
        have H1 := Lib.hid h1
        clear h1
        go_wp2_with fail
        go_ret
        exact ⟨rfl, H1.out⟩
      · have t_pay : decide ((160 : Int) < (pay.size : Int)) = false := decide_eq_false (by omega)
        by_cases h_other : 300 < other.size
        · have t_other : decide ((300 : Int) < (other.size : Int)) = true := decide_eq_true (by omega)
          clear hb h_key h_top h_pay h_other
          go_enter Try.func11, Try.ntmps11
          go_wp2_with fail
          refine awake_mak.calls H0.out ?_
          intro w1 h1
          have H1 := Lib.hid h1
          clear h1
          go_wp2_with fail
          go_ret
          exact ⟨rfl, H1.out⟩
        · have t_other : decide ((300 : Int) < (other.size : Int)) = false := decide_eq_false (by omega)
          have t_c : decide ((160 : Int) < (c.size : Int)) = true := decide_eq_true (by omega)
          clear hb h_key h_top h_pay h_other
          go_enter Try.func11, Try.ntmps11
          go_wp2_with fail
          refine awake_mak.calls H0.out ?_
          intro w1 h1
          have H1 := Lib.hid h1
          clear h1
          go_wp2_with fail
          go_ret
          exact ⟨rfl, H1.out⟩
theorem rseal_not (key top pay : ByteArray) (hk : key.size ≤ 100) (_ht : top.size ≤ 300) (hp : pay.size ≤ 160) (h : ¬ (keyOk key ∧ payOk pay)) : ∃ k : Int, (k == 0) = false ∧ (k != 0) = true ∧ Mak 34 #[.string key, .string top, .string pay] (.tuple #[.string ⟨#[]⟩, .string ⟨#[]⟩, .int .i64 k]) := by
  by_cases h1 : keyOk key
  · exact ⟨4, rfl, rfl, rseal_bad key top pay 4 rfl (rbind_nosize key top pay h1 (fun h2 => h ⟨h1, h2⟩) (by omega))⟩
  · exact ⟨2, rfl, rfl, rseal_bad key top pay 2 rfl (rbind_nokey key top pay (by omega) h1)⟩
set_option maxRecDepth 100000 in
theorem walk (a0 a1 a2 a3 a4 : ByteArray) (_w0 : a0.size ≤ maxLen) (_w1 : a1.size ≤ maxLen) (_w2 : a2.size ≤ maxLen) (_w3 : a3.size ≤ maxLen) (_w4 : a4.size ≤ maxLen) (w : World) :
    Calls Try.prog 11 #[.string a0, .string a1, .string a2, .string a3, .string a4] w fun e w' => e = .returned (.bool true) ∧ Below w.heap.size w w' := by
  by_cases hb : 100 < a0.size ∨ 300 < a1.size ∨ 160 < a2.size ∨ 300 < a3.size ∨ 160 < a4.size
  · exact core_big a0 a1 a2 a3 a4 hb w
  · by_cases hs : keyOk a0 ∧ payOk a2
    · have q1 := rseal_yes a0 a1 a2 hs.1 hs.2 (by omega) _ _ rfl rfl
      have q2 := open_mak a0 a3 a4 (bindK a0 a1 a2) (by omega) (by omega) (by omega) (by rw [bindK_size]; omega)
      have hT := bindK_size a0 a1 a2
      by_cases h2 : cipOk a4 (bindK a0 a1 a2)
      · have hps := plain_size a0 a4 _ h2
        by_cases h3 : good a0 a3 a4 (bindK a0 a1 a2)
        · rw [show opened a0 a3 a4 (bindK a0 a1 a2) = (plain a0 a4 (bindK a0 a1 a2), 0) from by unfold opened; rw [if_neg (by simpa using hs.1), if_neg (by simpa using h2), if_pos h3]] at q2
          exact core_y a0 a1 a2 a3 a4 (by omega) (by omega) (by omega) (by omega) (by omega) _ _ (plain a0 a4 (bindK a0 a1 a2)) _ _ _ _ q1 q2 (RefDer.keys_yes a0 hs.1 _ _ rfl rfl)
            (RefCbc.dec_yes (derK a0 0) (bindK a0 a1 a2) a4 (derK_ok a0 hs.1 0) hT h2.1.1 (by omega) _ rfl) (app_joinS _ _) (app_joinS _ _) (by omega) (by omega)
            (RefCmac.tag_yes (derK a0 1) (joinS a1 a2) (derK_ok a0 hs.1 1) (by rw [joinS_size]; omega) _ rfl) (RefCmac.tag_yes (derK a0 1) (joinS a3 (plain a0 a4 (bindK a0 a1 a2))) (derK_ok a0 hs.1 1) (by rw [joinS_size]; omega) _ h3.symm) w
        · rw [show opened a0 a3 a4 (bindK a0 a1 a2) = (⟨#[]⟩, 7) from by unfold opened; rw [if_neg (by simpa using hs.1), if_neg (by simpa using h2), if_neg h3]] at q2
          exact core_n a0 a1 a2 a3 a4 (by omega) (by omega) (by omega) (by omega) (by omega) _ _ 7 (Or.inr rfl) q1 q2 w
      · rw [show opened a0 a3 a4 (bindK a0 a1 a2) = (⟨#[]⟩, 4) from by unfold opened; rw [if_neg (by simpa using hs.1), if_pos h2]] at q2
        exact core_n a0 a1 a2 a3 a4 (by omega) (by omega) (by omega) (by omega) (by omega) _ _ 4 (Or.inl rfl) q1 q2 w
    · obtain ⟨k, k1, k2, q1⟩ := rseal_not a0 a1 a2 (by omega) (by omega) (by omega) hs
      exact core_k a0 a1 a2 a3 a4 (by omega) (by omega) (by omega) (by omega) (by omega) k k1 k2 q1 w

set_option maxRecDepth 100000 in
theorem own : ownKnob Try.prog.godebug = none := by kernel_rfl

set_option maxRecDepth 100000 in
theorem lifted (os : Os) (started : os.Started) (H : Type) (enc : TypeId × Value → H) :
    ReturnsInHanded {} Try.checked os 11 .any (Rows.openBindsSpec.pre6 enc Try.prog Try.f11 Rows.openBindsRow.domain false) (Rows.openBindsSpec.post enc Try.prog Try.f11 false true false false) := by
  refine returnsInHanded_of_change (C := Try.checked) own started (by kernel_rfl) Try.func11
    (ChangeSpec.witness6 (enc := enc) (C := Try.checked) false ⟨#[], #[.string ⟨#[]⟩, .string ⟨#[]⟩, .string ⟨#[]⟩, .string ⟨#[]⟩, .string ⟨#[]⟩], []⟩ 8 (by kernel_rfl) (by kernel_rfl) (by kernel_rfl) (by kernel_rfl)) ?_
  intro W base args ds gs before hval0 hW hcnd _
  have hval : ∀ (j : Nat) t v, Try.f11.params[j]? = some t → args[j]? = some v → Value.okWide Try.prog W .any base t v := hval0
  have hW' := hW
  obtain ⟨p, q, hA0, hV, rfl, hfz, hnd⟩ := hW
  have hA : DataW.TrodAll enc Try.prog W 0 (fun _ => true) true Try.f11.params.toList args.toList ds p := hA0
  rw [Try.params11] at hA hval
  obtain ⟨v0, vs0, d0, ds0, p0, q0, hargs, rfl, rfl, h0, r0⟩ := trodAll_cons hA
  obtain ⟨v1, vs1, d1, ds1, p1, q1, rfl, rfl, rfl, h1, r1⟩ := trodAll_cons r0
  obtain ⟨v2, vs2, d2, ds2, p2, q2, rfl, rfl, rfl, h2, r2⟩ := trodAll_cons r1
  obtain ⟨v3, vs3, d3, ds3, p3, q3, rfl, rfl, rfl, h3, r3⟩ := trodAll_cons r2
  obtain ⟨v4, vs4, d4, ds4, p4, q4, rfl, rfl, rfl, h4, r4⟩ := trodAll_cons r3
  obtain ⟨rfl, rfl, rfl⟩ := trodAll_nil r4
  obtain rfl : args = #[v0, v1, v2, v3, v4] := by cases args; simp_all
  obtain ⟨rfl, rfl⟩ := trodVars_none hV
  obtain ⟨a0, rfl, rfl, rfl, w0⟩ := Go.ChangeMaps.open_string Try.underlying9 (hval 0 9 v0 rfl rfl) h0
  obtain ⟨a1, rfl, rfl, rfl, w1⟩ := Go.ChangeMaps.open_string Try.underlying9 (hval 1 9 v1 rfl rfl) h1
  obtain ⟨a2, rfl, rfl, rfl, w2⟩ := Go.ChangeMaps.open_string Try.underlying9 (hval 2 9 v2 rfl rfl) h2
  obtain ⟨a3, rfl, rfl, rfl, w3⟩ := Go.ChangeMaps.open_string Try.underlying9 (hval 3 9 v3 rfl rfl) h3
  obtain ⟨a4, rfl, rfl, rfl, w4⟩ := Go.ChangeMaps.open_string Try.underlying9 (hval 4 9 v4 rfl rfl) h4
  clear hA0 hval0
  simp only [List.append_nil] at hW'
  refine (walk a0 a1 a2 a3 a4 w0 w1 w2 w3 w4 W).mono fun e W' ⟨he, hg⟩ => ?_
  subst he
  exact ⟨_, rfl, _, _, _, _, _, [], hW', (trodAll_cons_mk (shut_bool Try.underlying4 _) trodAll_mk0), (trodAll_cons_mk (Go.ChangeMaps.shut_string Try.underlying9 w0) (trodAll_cons_mk (Go.ChangeMaps.shut_string Try.underlying9 w1) (trodAll_cons_mk (Go.ChangeMaps.shut_string Try.underlying9 w2) (trodAll_cons_mk (Go.ChangeMaps.shut_string Try.underlying9 w3) (trodAll_cons_mk (Go.ChangeMaps.shut_string Try.underlying9 w4) trodAll_mk0))))), rfl, hg.frame _, fun h => by cases h⟩

set_option maxRecDepth 100000 in
theorem over : Rows.openBindsRow.holds Try.pinned (OpenSpec.ofChange Rows.openBindsSpec) :=
  OpenClaim.holds_of_wide 11 Try.f11 rfl rfl rfl rfl rfl rfl rfl ⟨rfl, rfl, rfl, rfl, rfl⟩ rfl rfl rfl rfl rfl (by kernel_rfl) Try.func11 (by kernel_rfl)
    (of_decide_eq_true (by kernel_rfl)) (by unfold Func.isWrapper; first | (rw [if_pos (by decide +kernel)]; kernel_rfl) | (rw [if_neg (by decide +kernel)]; exact ⟨rfl, rfl⟩))
    (fun os started H enc _ => lifted os started H enc)

theorem proved : Rows.OpenBindsSaid :=
  over

end Go.Proofs.Ytgbfdgopinnlbaa.openBinds
