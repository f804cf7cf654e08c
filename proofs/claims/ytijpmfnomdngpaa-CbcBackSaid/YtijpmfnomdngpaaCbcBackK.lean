/- The law CbcBack: what is encrypted, decrypted, is what it was; a text in two pieces goes on with the last block of the first one; no conditions. -/
import Derived.Test.YtijpmfnomdngpaaRows
import Derived.WalkKit
import Derived.ProofKit
import Derived.OpenShut
import Derived.Lib.Hide
import Derived.Test.YtijpmfnomdngpaaPk28
namespace Go.Proofs.Ytijpmfnomdngpaa.cbcBack
open Go.ChangeShapes Go.WideShapes Go.ChangeAt Go.RowKit
open Aes Cbc

set_option maxRecDepth 100000 in
set_option maxHeartbeats 4000000 in
theorem core_no (key iv s : ByteArray) (cut : Int) (hk : (key.size : Int) ≤ 100) (hi : (iv.size : Int) ≤ 100) (hs : (s.size : Int) ≤ 128) (e : Int) (he : (e != 0) = true)
    (c1 : Mak 26 #[.string key, .string iv, .string s] (.tuple #[.string ⟨#[]⟩, .int .i64 e])) (c2 : Mak 28 #[.string key, .string iv, .string s] (.tuple #[.string ⟨#[]⟩, .int .i64 e])) (w : World) :
    Calls Try.prog 7 #[.string key, .string iv, .string s, .int .u8 cut] w fun x w' => x = .returned (.bool true) ∧ Since w w' := by
  have H0 := Lib.hid (Since.refl w)
  have t1 : decide ((100 : Int) < (key.size : Int)) = false := decide_eq_false (by omega)
  have t2 : decide ((100 : Int) < (iv.size : Int)) = false := decide_eq_false (by omega)
  have t3 : decide ((128 : Int) < (s.size : Int)) = false := decide_eq_false (by omega)
  have he2 : (e == 0) = false := by rw [beq_eq_false_iff_ne]; exact bne_iff_ne.1 he
  go_enter Try.func7, Try.ntmps7
  go_wp2_with fail
  refine c1.calls H0.out ?_
  intro w1 h1
  have H1 := Lib.hid h1
  clear h1
  go_wp2_with fail
  refine c2.calls H1.out ?_
  intro w2 h2
  have H2 := Lib.hid h2
  clear h2
  go_wp2_with fail
  refine awake_mak.calls H2.out ?_
  intro w3 h3
  have H3 := Lib.hid h3
  clear h3
  go_wp2_with fail
  go_ret
  exact ⟨rfl, H3.out⟩
set_option maxRecDepth 100000 in
set_option maxHeartbeats 4000000 in
theorem core (key iv s : ByteArray) (c m r n : Nat) (hk : (key.size : Int) ≤ 100) (hi : (iv.size : Int) ≤ 100) (hs : (s.size : Int) ≤ 128) (hc : c ≤ 255) (hm : (s.size : Int) / 16 = (m : Int)) (hm8 : m ≤ 8) (hr : (c : Int) % ((m : Int) + 1) = (r : Int)) (hr8 : r ≤ 8) (hn : (16 : Int) * (r : Int) = (n : Int)) (hns : n ≤ s.size)
    (A S1 S2 X Y V : ByteArray) (h1 : s.extract 0 n = S1) (h2 : s.extract n s.size = S2) (hA : X ++ Y = A) (hsz : ¬ 9223372036854775807 < X.size + Y.size)
    (c1 : Mak 26 #[.string key, .string iv, .string s] (.tuple #[.string A, .int .i64 0])) (c2 : Mak 28 #[.string key, .string iv, .string A] (.tuple #[.string s, .int .i64 0]))
    (c3 : Mak 26 #[.string key, .string iv, .string S1] (.tuple #[.string X, .int .i64 0])) (c4 : Ret 30 #[.string iv, .string X] (.string V))
    (c5 : Mak 26 #[.string key, .string V, .string S2] (.tuple #[.string Y, .int .i64 0])) (w : World) :
    Calls Try.prog 7 #[.string key, .string iv, .string s, .int .u8 (c : Int)] w fun x w' => x = .returned (.bool true) ∧ Since w w' := by
  have H0 := Lib.hid (Since.refl w)
  have t1 : decide ((100 : Int) < (key.size : Int)) = false := decide_eq_false (by omega)
  have t2 : decide ((100 : Int) < (iv.size : Int)) = false := decide_eq_false (by omega)
  have t3 : decide ((128 : Int) < (s.size : Int)) = false := decide_eq_false (by omega)
  have i1 : (0 : Int) ≤ (n : Int) := by omega
  have i2 : (n : Int) ≤ (s.size : Int) := by omega
  have i3 : (0 : Int) ≤ (r : Int) := by omega
  have HA := Lib.hid hA
  have HH1 := Lib.hid h1
  have HH2 := Lib.hid h2
  clear hA h1 h2
  go_enter Try.func7, Try.ntmps7
  go_wp2_with fail
  refine c1.calls H0.out ?_
  intro w1 h1
  have H1 := Lib.hid h1
  clear h1
  go_wp2_with fail
  refine c2.calls H1.out ?_
  intro w2 h2
  have H2 := Lib.hid h2
  clear h2
  go_wp2_with fail
  rw [HH1.out]
  refine c3.calls H2.out ?_
  intro w3 h3
  have H3 := Lib.hid h3
  clear h3
  go_wp2_with fail
  go_region_law (first
    | (go_simp; go_at_call 30; refine c4.calls ?_)
    | (go_simp; rw [HH2.out]; go_at_call 26; refine (c5 _).mono ?_; rintro x w4 ⟨rfl, h4⟩)
    | (go_simp; go_at_call 26; refine (c5 _).mono ?_; rintro x w4 ⟨rfl, h4⟩))
  all_goals
    have H4 := Lib.hid (Since.step (Since.drew H3.out) h4)
    clear h4
    have hAt : ((X ++ Y).toList == A.toList) = true := str_eq_t HA.out
    go_wp2_with fail
    refine awake_mak.calls H4.out ?_
    intro w5 h5
    have H5 := Lib.hid h5
    clear h5
    go_wp2_with fail
    go_ret
    exact ⟨rfl, H5.out⟩
theorem walk (a0 a1 a2 : ByteArray) (a3 : Int) (w0 : a0.size ≤ maxLen) (w1 : a1.size ≤ maxLen) (w2 : a2.size ≤ maxLen) (w3 : (Lit.int .u8 a3).wf = true) (w : World) :
    Calls Try.prog 7 #[.string a0, .string a1, .string a2, .int .u8 a3] w fun e w' => e = .returned (.bool true) ∧ Below w.heap.size w w' := by
  unfold maxLen at w0 w1 w2
  by_cases hl : a0.size ≤ 100 ∧ a1.size ≤ 100 ∧ a2.size ≤ 128
  · obtain ⟨l0, l1, l2⟩ := hl
    by_cases hk : keyOk a0
    · by_cases hi : a1.size = 16
      · by_cases hs : a2.size % 16 = 0
        · have hu := u8_of_wf w3
          obtain ⟨c, rfl⟩ := Int.eq_ofNat_of_zero_le hu.1
          obtain ⟨m, hm⟩ : ∃ m, m = a2.size / 16 := ⟨_, rfl⟩
          obtain ⟨r, hr⟩ : ∃ r, r = c % (m + 1) := ⟨_, rfl⟩
          have hrm : r ≤ m := by have := Nat.mod_lt c (show 0 < m + 1 by omega); omega
          have hl : a2.data.toList.length = a2.size := rfl
          obtain ⟨S1, hS1⟩ : ∃ S, S = a2.extract 0 (16 * r) := ⟨_, rfl⟩
          obtain ⟨S2, hS2⟩ : ∃ S, S = a2.extract (16 * r) a2.size := ⟨_, rfl⟩
          have e1 : S1.data.toList = a2.data.toList.take (16 * r) := by rw [hS1, ext_list, List.drop_zero, Nat.sub_zero]
          have e2 : S2.data.toList = a2.data.toList.drop (16 * r) := by rw [hS2, ext_list, List.take_of_length_le (by rw [List.length_drop]; omega)]
          have z1 : S1.size = 16 * r := by
            show S1.data.toList.length = _
            rw [e1, List.length_take]; omega
          have z2 : S2.size = a2.size - 16 * r := by
            show S2.data.toList.length = _
            rw [e2, List.length_drop]; omega
          obtain ⟨X, hX⟩ : ∃ X, X = encC a0 a1 S1 := ⟨_, rfl⟩
          have hX2 : X = bs (chainE (encK a0) a1 S1.data.toList r) := by rw [hX, encC, show S1.size / 16 = r from by omega]
          have zX : X.size = 16 * r := by rw [hX2, size_bs, chainE_len _ (encK_size a0)]
          obtain ⟨V, hV⟩ : ∃ V, V = prevE (encK a0) a1 S1.data.toList r := ⟨_, rfl⟩
          have hVs : V.size = 16 := by rw [hV]; exact prevE_size _ (encK_size a0) a1 hi _ _
          obtain ⟨Y, hY⟩ : ∃ Y, Y = encC a0 V S2 := ⟨_, rfl⟩
          have zY : Y.size = 16 * (S2.size / 16) := by rw [hY, encC, size_bs, chainE_len _ (encK_size a0)]
          have c4 := last_mak a0 a1 S1.data.toList r X hX2 (by omega)
          rw [← hV] at c4
          have hA : X ++ Y = encC a0 a1 a2 := by
            apply ba_ext
            rw [app_list, hX2, hY]
            unfold encC
            rw [list_bs, list_bs, list_bs, hV, show S2.size / 16 = m - r from by omega, ← chain_app (encK a0) a1 S1.data.toList S2.data.toList r (m - r) z1, e1, e2, List.take_append_drop, show r + (m - r) = a2.size / 16 from by omega]
          exact core a0 a1 a2 c m r (16 * r) (by omega) (by omega) (by omega) (by omega) (by omega) (by omega) (by rw [hr]; simp) (by omega) (by omega) (by omega)
            (encC a0 a1 a2) S1 S2 X Y V hS1.symm hS2.symm hA (by omega) (Cbc.enc_yes a0 a1 a2 hk hi hs (by omega) _ rfl)
            (Cbc.dec_yes a0 a1 _ hk hi (by unfold encC; rw [size_bs, chainE_len _ (encK_size a0)]; omega) (by unfold encC; rw [size_bs, chainE_len _ (encK_size a0)]; omega) _ (dec_encC a0 a1 a2 hi hs).symm)
            (Cbc.enc_yes a0 a1 S1 hk hi (by omega) (by omega) X hX) c4 (Cbc.enc_yes a0 V S2 hk hVs (by omega) (by omega) Y hY) w
        · exact core_no a0 a1 a2 a3 (by omega) (by omega) (by omega) 4 rfl (Cbc.enc_nosize a0 a1 a2 hk hi hs) (Cbc.dec_nosize a0 a1 a2 hk hi hs) w
      · exact core_no a0 a1 a2 a3 (by omega) (by omega) (by omega) 1 rfl (Cbc.enc_noiv a0 a1 a2 hk hi) (Cbc.dec_noiv a0 a1 a2 hk hi) w
    · exact core_no a0 a1 a2 a3 (by omega) (by omega) (by omega) 2 rfl (Cbc.enc_nokey a0 a1 a2 (by omega) hk) (Cbc.dec_nokey a0 a1 a2 (by omega) hk) w
  · have H0 := Lib.hid (Since.refl w)
    by_cases h0 : a0.size ≤ 100
    · by_cases h1 : a1.size ≤ 100
      · have h2 : ¬ a2.size ≤ 128 := fun h => hl ⟨h0, h1, h⟩
        clear hl
        go_enter Try.func7, Try.ntmps7
        go_wp2_with fail
        all_goals
          refine awake_mak.calls H0.out ?_
          intro w1 h1
          have H1 := Lib.hid h1
          clear h1
          go_wp2_with fail
          go_ret
          exact ⟨rfl, H1.out⟩
      · clear hl
        go_enter Try.func7, Try.ntmps7
        go_wp2_with fail
        all_goals
          refine awake_mak.calls H0.out ?_
          intro w1 h1
          have H1 := Lib.hid h1
          clear h1
          go_wp2_with fail
          go_ret
          exact ⟨rfl, H1.out⟩
    · clear hl
      go_enter Try.func7, Try.ntmps7
      go_wp2_with fail
      all_goals
        refine awake_mak.calls H0.out ?_
        intro w1 h1
        have H1 := Lib.hid h1
        clear h1
        go_wp2_with fail
        go_ret
        exact ⟨rfl, H1.out⟩

theorem own : ownKnob Try.prog.godebug = none := by kernel_rfl

set_option maxRecDepth 100000 in
theorem lifted (os : Os) (started : os.Started) (H : Type) (enc : TypeId × Value → H) :
    ReturnsInHanded {} Try.checked os 7 .any (Rows.cbcBackSpec.pre6 enc Try.prog Try.f7 Rows.cbcBackRow.domain false) (Rows.cbcBackSpec.post enc Try.prog Try.f7 false true false false) := by
  refine returnsInHanded_of_change (C := Try.checked) own started (by kernel_rfl) Try.func7
    (ChangeSpec.witness6 (enc := enc) (C := Try.checked) false ⟨#[], #[.string ⟨#[]⟩, .string ⟨#[]⟩, .string ⟨#[]⟩, .int .u8 0], []⟩ 8 (by kernel_rfl) (by kernel_rfl) (by kernel_rfl) (by kernel_rfl)) ?_
  intro W base args ds gs before hval0 hW hcnd _
  have hval : ∀ (j : Nat) t v, Try.f7.params[j]? = some t → args[j]? = some v → Value.okWide Try.prog W .any base t v := hval0
  have hW' := hW
  obtain ⟨p, q, hA0, hV, rfl, hfz, hnd⟩ := hW
  have hA : DataW.TrodAll enc Try.prog W 0 (fun _ => true) true Try.f7.params.toList args.toList ds p := hA0
  rw [Try.params7] at hA hval
  obtain ⟨v0, vs0, d0, ds0, p0, q0, hargs, rfl, rfl, h0, r0⟩ := trodAll_cons hA
  obtain ⟨v1, vs1, d1, ds1, p1, q1, rfl, rfl, rfl, h1, r1⟩ := trodAll_cons r0
  obtain ⟨v2, vs2, d2, ds2, p2, q2, rfl, rfl, rfl, h2, r2⟩ := trodAll_cons r1
  obtain ⟨v3, vs3, d3, ds3, p3, q3, rfl, rfl, rfl, h3, r3⟩ := trodAll_cons r2
  obtain ⟨rfl, rfl, rfl⟩ := trodAll_nil r3
  obtain rfl : args = #[v0, v1, v2, v3] := by cases args; simp_all
  obtain ⟨rfl, rfl⟩ := trodVars_none hV
  obtain ⟨a0, rfl, rfl, rfl, w0⟩ := Go.ChangeMaps.open_string Try.underlying9 (hval 0 9 v0 rfl rfl) h0
  obtain ⟨a1, rfl, rfl, rfl, w1⟩ := Go.ChangeMaps.open_string Try.underlying9 (hval 1 9 v1 rfl rfl) h1
  obtain ⟨a2, rfl, rfl, rfl, w2⟩ := Go.ChangeMaps.open_string Try.underlying9 (hval 2 9 v2 rfl rfl) h2
  obtain ⟨a3, rfl, rfl, rfl, w3⟩ := open_int Try.underlying5 (hval 3 5 v3 rfl rfl) h3
  clear hA0 hval0
  simp only [List.append_nil] at hW'
  refine (walk a0 a1 a2 a3 w0 w1 w2 w3 W).mono fun e W' ⟨he, hg⟩ => ?_
  subst he
  exact ⟨_, rfl, _, _, _, _, _, [], hW', (trodAll_cons_mk (shut_bool Try.underlying4 _) trodAll_mk0), (trodAll_cons_mk (Go.ChangeMaps.shut_string Try.underlying9 w0) (trodAll_cons_mk (Go.ChangeMaps.shut_string Try.underlying9 w1) (trodAll_cons_mk (Go.ChangeMaps.shut_string Try.underlying9 w2) (trodAll_cons_mk (shut_int Try.underlying5 w3) trodAll_mk0)))), rfl, hg.frame _, fun h => by cases h⟩

theorem over : Rows.cbcBackRow.holds Try.pinned (OpenSpec.ofChange Rows.cbcBackSpec) :=
  OpenClaim.holds_of_wide 7 Try.f7 rfl rfl rfl rfl rfl rfl rfl ⟨rfl, rfl, rfl, rfl, rfl⟩ rfl rfl rfl rfl rfl (by kernel_rfl) Try.func7 (by kernel_rfl)
    (of_decide_eq_true (by kernel_rfl)) (by unfold Func.isWrapper; first | (rw [if_pos (by decide +kernel)]; kernel_rfl) | (rw [if_neg (by decide +kernel)]; exact ⟨rfl, rfl⟩))
    (fun os started H enc _ => lifted os started H enc)

theorem proved : Rows.CbcBackSaid :=
  over

end Go.Proofs.Ytijpmfnomdngpaa.cbcBack
