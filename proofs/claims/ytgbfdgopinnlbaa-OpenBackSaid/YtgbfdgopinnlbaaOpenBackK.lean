/- The law OpenBack: what was sealed is opened as it was; what is opened is what was sealed so; no conditions. -/
import Derived.Test.YtgbfdgopinnlbaaRows
import Derived.WalkKit
import Derived.ProofKit
import Derived.OpenShut
import Derived.Lib.Hide
import Derived.Test.YtgbfdgopinnlbaaPk36
namespace Go.Proofs.Ytgbfdgopinnlbaa.openBack
open Go.ChangeShapes Go.WideShapes Go.ChangeAt Go.RowKit
open Aes Cmac Kdf Der Seal Opn

set_option maxRecDepth 100000 in
set_option maxHeartbeats 4000000 in
theorem core_y_s (key top pay c t : ByteArray) (h1 : key.size ≤ 100) (h2 : top.size ≤ 300) (h3 : pay.size ≤ 160) (h4 : c.size ≤ 160) (h5 : t.size ≤ 100) (C T : ByteArray) (P : ByteArray)
    (c1 : Mak 34 #[.string key, .string top, .string pay] (.tuple #[.string C, .string T, .int .i64 0])) (c2 : Mak 42 #[.string key, .string top, .string C, .string T] (.tuple #[.string pay, .int .i64 0]))
    (c3 : Mak 42 #[.string key, .string top, .string c, .string t] (.tuple #[.string P, .int .i64 0])) (c4 : Mak 34 #[.string key, .string top, .string P] (.tuple #[.string c, .string t, .int .i64 0])) (w : World) :
    Calls Try.prog 10 #[.string key, .string top, .string pay, .string c, .string t] w fun x w' => x = .returned (.bool true) ∧ Since w w' := by
  have H0 := Lib.hid (Since.refl w)
  have t_key : decide ((100 : Int) < (key.size : Int)) = false := decide_eq_false (by omega)
  have t_top : decide ((300 : Int) < (top.size : Int)) = false := decide_eq_false (by omega)
  have t_pay : decide ((160 : Int) < (pay.size : Int)) = false := decide_eq_false (by omega)
  have t_c : decide ((160 : Int) < (c.size : Int)) = false := decide_eq_false (by omega)
  have t_t : decide ((100 : Int) < (t.size : Int)) = false := decide_eq_false (by omega)
  clear h1 h2 h3 h4 h5
  go_enter Try.func10, Try.ntmps10
  go_wp2_with fail
  refine c1.calls H0.out ?_
  intro w1 h1
  have H1 := Lib.hid h1
  clear h1
  go_wp2_with fail
  refine c2.calls H1.out ?_
  intro w2 h2
  have H2 := Lib.hid h2
  clear h2
  go_wp2_with fail
  refine c3.calls H2.out ?_
  intro w3 h3
  have H3 := Lib.hid h3
  clear h3
  go_wp2_with fail
  refine c4.calls H3.out ?_
  intro w4 h4
  have H4 := Lib.hid h4
  clear h4
  go_wp2_with fail
  refine awake_mak.calls H4.out ?_
  intro w5 h5
  have H5 := Lib.hid h5
  clear h5
  go_wp2_with fail
  go_ret
  exact ⟨rfl, H5.out⟩
set_option maxRecDepth 100000 in
set_option maxHeartbeats 4000000 in
theorem core_y_n (key top pay c t : ByteArray) (h1 : key.size ≤ 100) (h2 : top.size ≤ 300) (h3 : pay.size ≤ 160) (h4 : c.size ≤ 160) (h5 : t.size ≤ 100) (k : Int) (hk : (k == 0) = false) (_hk2 : (k != 0) = true) (P : ByteArray)
    (c1 : Mak 34 #[.string key, .string top, .string pay] (.tuple #[.string ⟨#[]⟩, .string ⟨#[]⟩, .int .i64 k])) 
    (c3 : Mak 42 #[.string key, .string top, .string c, .string t] (.tuple #[.string P, .int .i64 0])) (c4 : Mak 34 #[.string key, .string top, .string P] (.tuple #[.string c, .string t, .int .i64 0])) (w : World) :
    Calls Try.prog 10 #[.string key, .string top, .string pay, .string c, .string t] w fun x w' => x = .returned (.bool true) ∧ Since w w' := by
  have H0 := Lib.hid (Since.refl w)
  have t_key : decide ((100 : Int) < (key.size : Int)) = false := decide_eq_false (by omega)
  have t_top : decide ((300 : Int) < (top.size : Int)) = false := decide_eq_false (by omega)
  have t_pay : decide ((160 : Int) < (pay.size : Int)) = false := decide_eq_false (by omega)
  have t_c : decide ((160 : Int) < (c.size : Int)) = false := decide_eq_false (by omega)
  have t_t : decide ((100 : Int) < (t.size : Int)) = false := decide_eq_false (by omega)
  clear h1 h2 h3 h4 h5
  go_enter Try.func10, Try.ntmps10
  go_wp2_with fail
  refine c1.calls H0.out ?_
  intro w1 h1
  have H1 := Lib.hid h1
  clear h1
  go_wp2_with fail
  refine c3.calls H1.out ?_
  intro w2 h2
  have H2 := Lib.hid h2
  clear h2
  go_wp2_with fail
  refine c4.calls H2.out ?_
  intro w3 h3
  have H3 := Lib.hid h3
  clear h3
  go_wp2_with fail
  refine awake_mak.calls H3.out ?_
  intro w4 h4
  have H4 := Lib.hid h4
  clear h4
  go_wp2_with fail
  go_ret
  exact ⟨rfl, H4.out⟩
set_option maxRecDepth 100000 in
set_option maxHeartbeats 4000000 in
theorem core_n_s (key top pay c t : ByteArray) (h1 : key.size ≤ 100) (h2 : top.size ≤ 300) (h3 : pay.size ≤ 160) (h4 : c.size ≤ 160) (h5 : t.size ≤ 100) (C T : ByteArray) (e : Int) (he : (e != 0) = true) (_he2 : (e == 0) = false)
    (c1 : Mak 34 #[.string key, .string top, .string pay] (.tuple #[.string C, .string T, .int .i64 0])) (c2 : Mak 42 #[.string key, .string top, .string C, .string T] (.tuple #[.string pay, .int .i64 0]))
    (c3 : Mak 42 #[.string key, .string top, .string c, .string t] (.tuple #[.string ⟨#[]⟩, .int .i64 e]))  (w : World) :
    Calls Try.prog 10 #[.string key, .string top, .string pay, .string c, .string t] w fun x w' => x = .returned (.bool true) ∧ Since w w' := by
  have H0 := Lib.hid (Since.refl w)
  have t_key : decide ((100 : Int) < (key.size : Int)) = false := decide_eq_false (by omega)
  have t_top : decide ((300 : Int) < (top.size : Int)) = false := decide_eq_false (by omega)
  have t_pay : decide ((160 : Int) < (pay.size : Int)) = false := decide_eq_false (by omega)
  have t_c : decide ((160 : Int) < (c.size : Int)) = false := decide_eq_false (by omega)
  have t_t : decide ((100 : Int) < (t.size : Int)) = false := decide_eq_false (by omega)
  clear h1 h2 h3 h4 h5
  go_enter Try.func10, Try.ntmps10
  go_wp2_with fail
  refine c1.calls H0.out ?_
  intro w1 h1
  have H1 := Lib.hid h1
  clear h1
  go_wp2_with fail
  refine c2.calls H1.out ?_
  intro w2 h2
  have H2 := Lib.hid h2
  clear h2
  go_wp2_with fail
  refine c3.calls H2.out ?_
  intro w3 h3
  have H3 := Lib.hid h3
  clear h3
  go_wp2_with fail
  refine awake_mak.calls H3.out ?_
  intro w4 h4
  have H4 := Lib.hid h4
  clear h4
  go_wp2_with fail
  go_ret
  exact ⟨rfl, H4.out⟩
set_option maxRecDepth 100000 in
set_option maxHeartbeats 4000000 in
theorem core_n_n (key top pay c t : ByteArray) (h1 : key.size ≤ 100) (h2 : top.size ≤ 300) (h3 : pay.size ≤ 160) (h4 : c.size ≤ 160) (h5 : t.size ≤ 100) (k : Int) (hk : (k == 0) = false) (_hk2 : (k != 0) = true) (e : Int) (he : (e != 0) = true) (_he2 : (e == 0) = false)
    (c1 : Mak 34 #[.string key, .string top, .string pay] (.tuple #[.string ⟨#[]⟩, .string ⟨#[]⟩, .int .i64 k])) 
    (c3 : Mak 42 #[.string key, .string top, .string c, .string t] (.tuple #[.string ⟨#[]⟩, .int .i64 e]))  (w : World) :
    Calls Try.prog 10 #[.string key, .string top, .string pay, .string c, .string t] w fun x w' => x = .returned (.bool true) ∧ Since w w' := by
  have H0 := Lib.hid (Since.refl w)
  have t_key : decide ((100 : Int) < (key.size : Int)) = false := decide_eq_false (by omega)
  have t_top : decide ((300 : Int) < (top.size : Int)) = false := decide_eq_false (by omega)
  have t_pay : decide ((160 : Int) < (pay.size : Int)) = false := decide_eq_false (by omega)
  have t_c : decide ((160 : Int) < (c.size : Int)) = false := decide_eq_false (by omega)
  have t_t : decide ((100 : Int) < (t.size : Int)) = false := decide_eq_false (by omega)
  clear h1 h2 h3 h4 h5
  go_enter Try.func10, Try.ntmps10
  go_wp2_with fail
  refine c1.calls H0.out ?_
  intro w1 h1
  have H1 := Lib.hid h1
  clear h1
  go_wp2_with fail
  refine c3.calls H1.out ?_
  intro w2 h2
  have H2 := Lib.hid h2
  clear h2
  go_wp2_with fail
  refine awake_mak.calls H2.out ?_
  intro w3 h3
  have H3 := Lib.hid h3
  clear h3
  go_wp2_with fail
  go_ret
  exact ⟨rfl, H3.out⟩
set_option maxRecDepth 100000 in
set_option maxHeartbeats 4000000 in
theorem core_big (key top pay c t : ByteArray) (hb : 100 < key.size ∨ 300 < top.size ∨ 160 < pay.size ∨ 160 < c.size ∨ 100 < t.size) (w : World) :
    Calls Try.prog 10 #[.string key, .string top, .string pay, .string c, .string t] w fun x w' => x = .returned (.bool true) ∧ Since w w' := by
  have H0 := Lib.hid (Since.refl w)
  by_cases h_key : 100 < key.size
  · have t_key : decide ((100 : Int) < (key.size : Int)) = true := decide_eq_true (by omega)
    clear hb h_key
    go_enter Try.func10, Try.ntmps10
    go_wp2_with fail
    refine awake_mak.calls H0.out ?_
    intro w1 h1
    have H1 := Lib.hid h1
    clear h1
    go_wp2_with fail
    go_ret
    exact ⟨rfl, H1.out⟩
  · have t_key : decide ((100 : Int) < (key.size : Int)) = false := decide_eq_false (by omega)
    by_cases h_top : 300 < top.size
    · have t_top : decide ((300 : Int) < (top.size : Int)) = true := decide_eq_true (by omega)
      clear hb h_key h_top
      go_enter Try.func10, Try.ntmps10
      go_wp2_with fail
      refine awake_mak.calls H0.out ?_
      intro w1 h1
      have H1 := Lib.hid h1
      clear h1
      go_wp2_with fail
      go_ret
      exact ⟨rfl, H1.out⟩
    · have t_top : decide ((300 : Int) < (top.size : Int)) = false := decide_eq_false (by omega)
      by_cases h_pay : 160 < pay.size
      · have t_pay : decide ((160 : Int) < (pay.size : Int)) = true := decide_eq_true (by omega)
        clear hb h_key h_top h_pay
        go_enter Try.func10, Try.ntmps10
        go_wp2_with fail
        refine awake_mak.calls H0.out ?_
        intro w1 h1
        have H1 := Lib.hid h1
        clear h1
        go_wp2_with fail
        go_ret
        exact ⟨rfl, H1.out⟩
      · have t_pay : decide ((160 : Int) < (pay.size : Int)) = false := decide_eq_false (by omega)
        by_cases h_c : 160 < c.size
        · have t_c : decide ((160 : Int) < (c.size : Int)) = true := decide_eq_true (by omega)
          clear hb h_key h_top h_pay h_c
          go_enter Try.func10, Try.ntmps10
          go_wp2_with fail
          refine awake_mak.calls H0.out ?_
          intro w1 h1
          have H1 := Lib.hid h1
          clear h1
          go_wp2_with fail
          go_ret
          exact ⟨rfl, H1.out⟩
        · have t_c : decide ((160 : Int) < (c.size : Int)) = false := decide_eq_false (by omega)
          have t_t : decide ((100 : Int) < (t.size : Int)) = true := decide_eq_true (by omega)
          clear hb h_key h_top h_pay h_c
          go_enter Try.func10, Try.ntmps10
          go_wp2_with fail
          refine awake_mak.calls H0.out ?_
          intro w1 h1
          have H1 := Lib.hid h1
          clear h1
          go_wp2_with fail
          go_ret
          exact ⟨rfl, H1.out⟩
theorem rseal_not (key top pay : ByteArray) (hk : key.size ≤ 100) (_ht : top.size ≤ 300) (hp : pay.size ≤ 160) (h : ¬ (keyOk key ∧ payOk pay)) : ∃ k : Int, (k == 0) = false ∧ (k != 0) = true ∧ Mak 34 #[.string key, .string top, .string pay] (.tuple #[.string ⟨#[]⟩, .string ⟨#[]⟩, .int .i64 k]) := by
  by_cases h1 : keyOk key
  · exact ⟨4, rfl, rfl, rseal_bad key top pay 4 rfl (rbind_nosize key top pay h1 (fun h2 => h ⟨h1, h2⟩) (by omega))⟩
  · exact ⟨2, rfl, rfl, rseal_bad key top pay 2 rfl (rbind_nokey key top pay (by omega) h1)⟩
theorem opened_not (key top c t : ByteArray) (h : ¬ (keyOk key ∧ cipOk c t ∧ good key top c t)) : ∃ e : Int, (e != 0) = true ∧ (e == 0) = false ∧ opened key top c t = (⟨#[]⟩, e) := by
  unfold opened
  by_cases h1 : keyOk key
  · by_cases h2 : cipOk c t
    · exact ⟨7, rfl, rfl, by rw [if_neg (by simpa using h1), if_neg (by simpa using h2), if_neg (fun h3 => h ⟨h1, h2, h3⟩)]⟩
    · exact ⟨4, rfl, rfl, by rw [if_neg (by simpa using h1), if_pos h2]⟩
  · exact ⟨2, rfl, rfl, by rw [if_pos h1]⟩
theorem opened_is (key top c t : ByteArray) (h1 : keyOk key) (h2 : cipOk c t) (h3 : good key top c t) : opened key top c t = (plain key c t, 0) := by
  unfold opened
  rw [if_neg (by simpa using h1), if_neg (by simpa using h2), if_pos h3]
set_option maxRecDepth 100000 in
theorem walk (a0 a1 a2 a3 a4 : ByteArray) (_w0 : a0.size ≤ maxLen) (_w1 : a1.size ≤ maxLen) (_w2 : a2.size ≤ maxLen) (_w3 : a3.size ≤ maxLen) (_w4 : a4.size ≤ maxLen) (w : World) :
    Calls Try.prog 10 #[.string a0, .string a1, .string a2, .string a3, .string a4] w fun e w' => e = .returned (.bool true) ∧ Below w.heap.size w w' := by
  by_cases hb : 100 < a0.size ∨ 300 < a1.size ∨ 160 < a2.size ∨ 160 < a3.size ∨ 100 < a4.size
  · exact core_big a0 a1 a2 a3 a4 hb w
  · have q3 := open_mak a0 a1 a3 a4 (by omega) (by omega) (by omega) (by omega)
    by_cases hs : keyOk a0 ∧ payOk a2
    · have q1 := rseal_yes a0 a1 a2 hs.1 hs.2 (by omega) _ _ rfl rfl
      have q2 := open_mak a0 a1 (cipK a0 a1 a2) (bindK a0 a1 a2) (by omega) (by omega) (by rw [cipK_size _ _ _ hs.2]; omega) (by rw [bindK_size]; omega)
      rw [opened_sealed a0 a1 a2 hs.1 hs.2] at q2
      by_cases ho : keyOk a0 ∧ cipOk a3 a4 ∧ good a0 a1 a3 a4
      · rw [opened_is a0 a1 a3 a4 ho.1 ho.2.1 ho.2.2] at q3
        have hz := sealed_opened a0 a1 a3 a4 ho.2.1 ho.2.2
        have hps := plain_size a0 a3 a4 ho.2.1
        exact core_y_s a0 a1 a2 a3 a4 (by omega) (by omega) (by omega) (by omega) (by omega) _ _ (plain a0 a3 a4) q1 q2 q3 (rseal_yes a0 a1 _ hs.1 (by obtain ⟨⟨p1, p2⟩, p3⟩ := ho.2.1; unfold payOk; omega) (by omega) _ _ hz.1.symm hz.2.symm) w
      · obtain ⟨e, e1, e2, e3⟩ := opened_not a0 a1 a3 a4 ho
        rw [e3] at q3
        exact core_n_s a0 a1 a2 a3 a4 (by omega) (by omega) (by omega) (by omega) (by omega) _ _ e e1 e2 q1 q2 q3 w
    · obtain ⟨k, k1, k2, q1⟩ := rseal_not a0 a1 a2 (by omega) (by omega) (by omega) hs
      by_cases ho : keyOk a0 ∧ cipOk a3 a4 ∧ good a0 a1 a3 a4
      · rw [opened_is a0 a1 a3 a4 ho.1 ho.2.1 ho.2.2] at q3
        have hz := sealed_opened a0 a1 a3 a4 ho.2.1 ho.2.2
        have hps := plain_size a0 a3 a4 ho.2.1
        exact core_y_n a0 a1 a2 a3 a4 (by omega) (by omega) (by omega) (by omega) (by omega) k k1 k2 (plain a0 a3 a4) q1 q3 (rseal_yes a0 a1 _ ho.1 (by obtain ⟨⟨p1, p2⟩, p3⟩ := ho.2.1; unfold payOk; omega) (by omega) _ _ hz.1.symm hz.2.symm) w
      · obtain ⟨e, e1, e2, e3⟩ := opened_not a0 a1 a3 a4 ho
        rw [e3] at q3
        exact core_n_n a0 a1 a2 a3 a4 (by omega) (by omega) (by omega) (by omega) (by omega) k k1 k2 e e1 e2 q1 q3 w

set_option maxRecDepth 100000 in
theorem own : ownKnob Try.prog.godebug = none := by kernel_rfl

set_option maxRecDepth 100000 in
theorem lifted (os : Os) (started : os.Started) (H : Type) (enc : TypeId × Value → H) :
    ReturnsInHanded {} Try.checked os 10 .any (Rows.openBackSpec.pre6 enc Try.prog Try.f10 Rows.openBackRow.domain false) (Rows.openBackSpec.post enc Try.prog Try.f10 false true false false) := by
  refine returnsInHanded_of_change (C := Try.checked) own started (by kernel_rfl) Try.func10
    (ChangeSpec.witness6 (enc := enc) (C := Try.checked) false ⟨#[], #[.string ⟨#[]⟩, .string ⟨#[]⟩, .string ⟨#[]⟩, .string ⟨#[]⟩, .string ⟨#[]⟩], []⟩ 8 (by kernel_rfl) (by kernel_rfl) (by kernel_rfl) (by kernel_rfl)) ?_
  intro W base args ds gs before hval0 hW hcnd _
  have hval : ∀ (j : Nat) t v, Try.f10.params[j]? = some t → args[j]? = some v → Value.okWide Try.prog W .any base t v := hval0
  have hW' := hW
  obtain ⟨p, q, hA0, hV, rfl, hfz, hnd⟩ := hW
  have hA : DataW.TrodAll enc Try.prog W 0 (fun _ => true) true Try.f10.params.toList args.toList ds p := hA0
  rw [Try.params10] at hA hval
  obtain ⟨v0, vs0, d0, ds0, p0, q0, hargs, rfl, rfl, h0, r0⟩ := trodAll_cons hA
  obtain ⟨v1, vs1, d1, ds1, p1, q1, rfl, rfl, rfl, h1, r1⟩ := trodAll_cons r0
  obtain ⟨v2, vs2, d2, ds2, p2, q2, rfl, rfl, rfl, h2, r2⟩ := trodAll_cons r1
  obtain ⟨v3, vs3, d3, ds3, p3, q3, rfl, rfl, rfl, h3, r3⟩ := trodAll_cons r2
  obtain ⟨v4, vs4, d4, ds4, p4, q4, rfl, rfl, rfl, h4, r4⟩ := trodAll_cons r3
  obtain ⟨rfl, rfl, rfl⟩ := trodAll_nil r4
  obtain rfl : args = #[v0, v1, v2, v3, v4] := by cases args; simp_all
  obtain ⟨rfl, rfl⟩ := trodVars_none hV
  obtain ⟨a0, rfl, rfl, rfl, w0⟩ := Go.ChangeMaps.open_string Try.underlying9 (hval 0 9 v0 rfl rfl) h0
  obtain ⟨a1, rfl, rfl, rfl, w1⟩ := Go.ChangeMaps.open_string Try.underlying9 (hval 1 9 v1 rfl rfl) h1
  obtain ⟨a2, rfl, rfl, rfl, w2⟩ := Go.ChangeMaps.open_string Try.underlying9 (hval 2 9 v2 rfl rfl) h2
  obtain ⟨a3, rfl, rfl, rfl, w3⟩ := Go.ChangeMaps.open_string Try.underlying9 (hval 3 9 v3 rfl rfl) h3
  obtain ⟨a4, rfl, rfl, rfl, w4⟩ := Go.ChangeMaps.open_string Try.underlying9 (hval 4 9 v4 rfl rfl) h4
  clear hA0 hval0
  simp only [List.append_nil] at hW'
  refine (walk a0 a1 a2 a3 a4 w0 w1 w2 w3 w4 W).mono fun e W' ⟨he, hg⟩ => ?_
  subst he
  exact ⟨_, rfl, _, _, _, _, _, [], hW', (trodAll_cons_mk (shut_bool Try.underlying4 _) trodAll_mk0), (trodAll_cons_mk (Go.ChangeMaps.shut_string Try.underlying9 w0) (trodAll_cons_mk (Go.ChangeMaps.shut_string Try.underlying9 w1) (trodAll_cons_mk (Go.ChangeMaps.shut_string Try.underlying9 w2) (trodAll_cons_mk (Go.ChangeMaps.shut_string Try.underlying9 w3) (trodAll_cons_mk (Go.ChangeMaps.shut_string Try.underlying9 w4) trodAll_mk0))))), rfl, hg.frame _, fun h => by cases h⟩

set_option maxRecDepth 100000 in
theorem over : Rows.openBackRow.holds Try.pinned (OpenSpec.ofChange Rows.openBackSpec) :=
  OpenClaim.holds_of_wide 10 Try.f10 rfl rfl rfl rfl rfl rfl rfl ⟨rfl, rfl, rfl, rfl, rfl⟩ rfl rfl rfl rfl rfl (by kernel_rfl) Try.func10 (by kernel_rfl)
    (of_decide_eq_true (by kernel_rfl)) (by unfold Func.isWrapper; first | (rw [if_pos (by decide +kernel)]; kernel_rfl) | (rw [if_neg (by decide +kernel)]; exact ⟨rfl, rfl⟩))
    (fun os started H enc _ => lifted os started H enc)

theorem proved : Rows.OpenBackSaid :=
  over

end Go.Proofs.Ytgbfdgopinnlbaa.openBack
