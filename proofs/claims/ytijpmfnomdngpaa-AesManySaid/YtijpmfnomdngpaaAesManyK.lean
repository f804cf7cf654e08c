/- The law AesMany: blocks are dealt with one by one, as the document says; so does a cipher that is asked again and again; no conditions. -/
import Derived.Test.YtijpmfnomdngpaaRows
import Derived.WalkKit
import Derived.ProofKit
import Derived.OpenShut
import Derived.Lib.Hide
import Derived.Test.YtijpmfnomdngpaaPk28
namespace Go.Proofs.Ytijpmfnomdngpaa.aesMany
open Go.ChangeShapes Go.WideShapes Go.ChangeAt Go.RowKit
open Aes RefAes

set_option maxRecDepth 100000 in
set_option maxHeartbeats 4000000 in
theorem core_no (key s : ByteArray) (back : Bool) (hk : (key.size : Int) ≤ 100) (hs : (s.size : Int) ≤ 160)
    (c1 : Ret 18 #[.string key, .string s, .bool back] (.tuple #[.string ⟨#[]⟩, .int .i64 2])) (c2 : Ret 19 #[.string key, .string s, .bool back] (.tuple #[.string ⟨#[]⟩, .int .i64 2]))
    (c3 : Ret 20 #[.string key] (.tuple #[.pointer none, .int .i64 2])) (c4 : Ret 21 #[.int .i64 (key.size : Int)] (.int .i64 0)) (w : World) :
    Calls Try.prog 4 #[.string key, .string s, .bool back] w fun x w' => x = .returned (.bool true) ∧ Since w w' := by
  have H0 := Lib.hid (Since.refl w)
  have t1 : decide ((100 : Int) < (key.size : Int)) = false := decide_eq_false (by omega)
  have t2 : decide ((160 : Int) < (s.size : Int)) = false := decide_eq_false (by omega)
  go_enter Try.func4, Try.ntmps4
  go_wp2_with fail
  refine (c1).calls ?_
  go_wp2_with fail
  refine (c2).calls ?_
  go_wp2_with fail
  refine (c3).calls ?_
  go_wp2_with fail
  refine (c4).calls ?_
  go_wp2_with fail
  refine awake_mak.calls H0.out ?_
  intro w1 h1
  have H1 := Lib.hid h1
  clear h1
  go_wp2_with fail
  go_ret
  exact ⟨rfl, H1.out⟩
set_option maxRecDepth 100000 in
set_option maxHeartbeats 8000000 in
theorem core_f (key s : ByteArray) (hk : keyOk key) (hs : (s.size : Int) ≤ 160) (A : ByteArray) (e : Int) (he : (e != 0) = true ∨ (e != 0) = false ∧ A = bs (manyL (encK key) s.data.toList (s.size / 16)))
    (c1 : Mak 18 #[.string key, .string s, .bool false] (.tuple #[.string A, .int .i64 e])) (c2 : Mak 19 #[.string key, .string s, .bool false] (.tuple #[.string A, .int .i64 e])) (w : World) :
    Calls Try.prog 4 #[.string key, .string s, .bool false] w fun x w' => x = .returned (.bool true) ∧ Since w w' := by
  have H0 := Lib.hid (Since.refl w)
  have hk2 := hk
  unfold keyOk at hk2
  have t1 : decide ((100 : Int) < (key.size : Int)) = false := decide_eq_false (by omega)
  have t2 : decide ((160 : Int) < (s.size : Int)) = false := decide_eq_false (by omega)
  have c3 := new_key key hk
  have HE := Lib.hid he
  clear hk2 he hk
  go_enter Try.func4, Try.ntmps4
  go_wp2_with fail
  refine c1.calls H0.out ?_
  intro w1 h1
  have H1 := Lib.hid h1
  clear h1
  go_wp2_with fail
  refine c2.calls H1.out ?_
  intro w2 h2
  have H2 := Lib.hid h2
  clear h2
  go_wp2_with fail
  refine c3 _ _ H2.out _ ?_
  intro c w3 hC _ h3
  have HC := Lib.hid hC
  have H3 := Lib.hid h3
  clear h3 hC
  go_wp2_with fail
  refine (csize c key w3 HC.out).mono ?_
  rintro x w3 ⟨rfl, rfl⟩
  go_wp2_with fail
  go_loopw [13, 14] (fun o i wr => ∃ (a k : Nat) (O : ByteArray), i = .int .i64 (a : Int) ∧ o = .string O ∧ Hid (a = 16 * k) ∧ a ≤ s.size ∧ Hid (O = bs (manyL (encK key) s.data.toList k)) ∧ Hid (Since w3 wr)) (fun _ i _ => s.size - (intOf i).toNat)
  case atStart => exact ⟨0, 0, ⟨#[]⟩, rfl, rfl, Lib.hid rfl, Nat.zero_le _, Lib.hid rfl, Lib.hid (Since.refl _)⟩
  case round =>
    obtain ⟨a, k, O, rfl, rfl, HA, ha, HO, HS⟩ := hrel
    have hOs : O.size = a := by rw [HO.out, size_bs, manyL_len _ (encK_size key), HA.out]
    by_cases hlt : a + 16 ≤ s.size
    · have hd : decide ((a : Int) + 16 ≤ (s.size : Int)) = true := decide_eq_true (by omega)
      have he := pc_ext s a k HA.out
      have hp := pc_16 s k (by have := HA.out; omega)
      obtain ⟨P, hP⟩ : ∃ P, P = s.extract a (a + 16) := ⟨_, rfl⟩
      rw [he] at hP
      rw [← hP] at hp he
      obtain ⟨Z, hZ⟩ : ∃ Z, Z = encK key P := ⟨_, rfl⟩
      obtain ⟨Y, hY⟩ : ∃ Y, Y = encK key P := ⟨_, rfl⟩
      have hYs : Y.size = 16 := by rw [hY]; exact encK_size key P
      have c4 := fun w' (h : Since w3 w') => cenc_yes c key P hp Z hZ w' (HC.out.since h)
      have c5 := fun w' (h : Since w3 w') => cdec_yes c key P hp (decK key P) rfl w' (HC.out.since h)
      have hsz : ¬ 9223372036854775807 < O.size + Y.size := by omega
      have hO2 : O ++ Y = bs (manyL (encK key) s.data.toList (k + 1)) := by
        apply ba_ext
        rw [app_list, HO.out, list_bs, list_bs, manyL_succ, hY, hP]
      have i1 : (0 : Int) ≤ (a : Int) := by omega
      have i2 : (a : Int) + 16 ≤ (s.size : Int) := by omega
      have HYZ : Hid (Y = encK key P ∧ Z = encK key P) := Lib.hid ⟨hY, hZ⟩
      clear hOs hp hP hY hYs hZ
      have HO2 := Lib.hid hO2
      clear hO2
      have H_c4 := Lib.hid c4
      clear c4
      have H_c5 := Lib.hid c5
      clear c5
      go_wp2_with fail
      rw [he]
      refine (H_c4.out wr HS.out).mono ?_
      rintro x w4 ⟨rfl, h4⟩
      have hzy : Z = Y := by rw [HYZ.out.1, HYZ.out.2]
      subst hzy
      have HS2 := Lib.hid (Since.step HS.out h4)
      clear h4
      go_wp2_with fail
      go_roundw
      case rel => exact ⟨a + 16, k + 1, _, by go_num, rfl, Lib.hid (by have := HA.out; omega), hlt, HO2, HS2⟩
      case measure => simp [intOf]; omega
    · have hd : decide ((a : Int) + 16 ≤ (s.size : Int)) = false := decide_eq_false (by omega)
      have hOe : O = bs (manyL (encK key) s.data.toList (s.size / 16)) := by
        rw [HO.out, show s.size / 16 = k from by have := HA.out; omega]
      have hsz : ¬ 9223372036854775807 < s.size + 1 := by omega
      have hsq : (s ++ ⟨#[48]⟩).size = s.size + 1 := by
        show (s ++ ⟨#[48]⟩).data.toList.length = _
        rw [app_list, List.length_append]; rfl
      obtain ⟨T, hT⟩ : ∃ T, T = s ++ ⟨#[48]⟩ := ⟨_, rfl⟩
      rw [← hT] at hsq
      have HOs : Hid (O.size = a) := Lib.hid hOs
      clear hOs
      by_cases h15 : s.size = 15
      · have hf := cenc_yes c key T (by omega) _ rfl wr (HC.out.since HS.out)
        have g1 : ((s.size : Int) == 15) = true := by rw [beq_iff_eq]; omega
        have g2 : ((s.size : Int) != 15) = false := by rw [bne_eq_false_iff_eq]; omega
        rcases HE.out with he | ⟨he, hA⟩
        · have Hf := Lib.hid hf
          clear hf
          have HOe := Lib.hid hOe
          clear hOe
          clear h15 hsq
          go_wp2_with fail
          rw [← hT]
          refine Hf.out.mono ?_
          rintro x w5 ⟨rfl, h5⟩
          have H5 := Lib.hid (Since.step (Since.step H3.out HS.out) h5)
          clear h5
          go_wp2_with fail
          refine awake_mak.calls H5.out ?_
          intro w6 h6
          have H6 := Lib.hid h6
          clear h6
          go_wp2_with fail
          go_ret
          exact ⟨rfl, H6.out⟩
        · rw [← hA] at hOe
          subst hOe
          have he2 : (e == 0) = true := by rw [beq_iff_eq]; simpa using he
          have Hf := Lib.hid hf
          clear hf
          have HA := Lib.hid hA
          clear hA
          clear h15 hsq
          go_wp2_with fail
          rw [← hT]
          refine Hf.out.mono ?_
          rintro x w5 ⟨rfl, h5⟩
          have H5 := Lib.hid (Since.step (Since.step H3.out HS.out) h5)
          clear h5
          go_wp2_with fail
          refine awake_mak.calls H5.out ?_
          intro w6 h6
          have H6 := Lib.hid h6
          clear h6
          go_wp2_with fail
          go_ret
          exact ⟨rfl, H6.out⟩
      · have hf := cenc_no c key T (by omega) (by omega) wr (HC.out.since HS.out)
        have g1 : ((s.size : Int) == 15) = false := by rw [beq_eq_false_iff_ne]; omega
        have g2 : ((s.size : Int) != 15) = true := by rw [bne_iff_ne]; omega
        rcases HE.out with he | ⟨he, hA⟩
        · have Hf := Lib.hid hf
          clear hf
          have HOe := Lib.hid hOe
          clear hOe
          clear h15 hsq
          go_wp2_with fail
          rw [← hT]
          refine Hf.out.mono ?_
          rintro x w5 ⟨rfl, h5⟩
          have H5 := Lib.hid (Since.step (Since.step H3.out HS.out) h5)
          clear h5
          go_wp2_with fail
          refine awake_mak.calls H5.out ?_
          intro w6 h6
          have H6 := Lib.hid h6
          clear h6
          go_wp2_with fail
          go_ret
          exact ⟨rfl, H6.out⟩
        · rw [← hA] at hOe
          subst hOe
          have he2 : (e == 0) = true := by rw [beq_iff_eq]; simpa using he
          have Hf := Lib.hid hf
          clear hf
          have HA := Lib.hid hA
          clear hA
          clear h15 hsq
          go_wp2_with fail
          rw [← hT]
          refine Hf.out.mono ?_
          rintro x w5 ⟨rfl, h5⟩
          have H5 := Lib.hid (Since.step (Since.step H3.out HS.out) h5)
          clear h5
          go_wp2_with fail
          refine awake_mak.calls H5.out ?_
          intro w6 h6
          have H6 := Lib.hid h6
          clear h6
          go_wp2_with fail
          go_ret
          exact ⟨rfl, H6.out⟩
set_option maxRecDepth 100000 in
set_option maxHeartbeats 8000000 in
theorem core_t (key s : ByteArray) (hk : keyOk key) (hs : (s.size : Int) ≤ 160) (A : ByteArray) (e : Int) (he : (e != 0) = true ∨ (e != 0) = false ∧ A = bs (manyL (decK key) s.data.toList (s.size / 16)))
    (c1 : Mak 18 #[.string key, .string s, .bool true] (.tuple #[.string A, .int .i64 e])) (c2 : Mak 19 #[.string key, .string s, .bool true] (.tuple #[.string A, .int .i64 e])) (w : World) :
    Calls Try.prog 4 #[.string key, .string s, .bool true] w fun x w' => x = .returned (.bool true) ∧ Since w w' := by
  have H0 := Lib.hid (Since.refl w)
  have hk2 := hk
  unfold keyOk at hk2
  have t1 : decide ((100 : Int) < (key.size : Int)) = false := decide_eq_false (by omega)
  have t2 : decide ((160 : Int) < (s.size : Int)) = false := decide_eq_false (by omega)
  have c3 := new_key key hk
  have HE := Lib.hid he
  clear hk2 he hk
  go_enter Try.func4, Try.ntmps4
  go_wp2_with fail
  refine c1.calls H0.out ?_
  intro w1 h1
  have H1 := Lib.hid h1
  clear h1
  go_wp2_with fail
  refine c2.calls H1.out ?_
  intro w2 h2
  have H2 := Lib.hid h2
  clear h2
  go_wp2_with fail
  refine c3 _ _ H2.out _ ?_
  intro c w3 hC _ h3
  have HC := Lib.hid hC
  have H3 := Lib.hid h3
  clear h3 hC
  go_wp2_with fail
  refine (csize c key w3 HC.out).mono ?_
  rintro x w3 ⟨rfl, rfl⟩
  go_wp2_with fail
  go_loopw [13, 14] (fun o i wr => ∃ (a k : Nat) (O : ByteArray), i = .int .i64 (a : Int) ∧ o = .string O ∧ Hid (a = 16 * k) ∧ a ≤ s.size ∧ Hid (O = bs (manyL (decK key) s.data.toList k)) ∧ Hid (Since w3 wr)) (fun _ i _ => s.size - (intOf i).toNat)
  case atStart => exact ⟨0, 0, ⟨#[]⟩, rfl, rfl, Lib.hid rfl, Nat.zero_le _, Lib.hid rfl, Lib.hid (Since.refl _)⟩
  case round =>
    obtain ⟨a, k, O, rfl, rfl, HA, ha, HO, HS⟩ := hrel
    have hOs : O.size = a := by rw [HO.out, size_bs, manyL_len _ (decK_size key), HA.out]
    by_cases hlt : a + 16 ≤ s.size
    · have hd : decide ((a : Int) + 16 ≤ (s.size : Int)) = true := decide_eq_true (by omega)
      have he := pc_ext s a k HA.out
      have hp := pc_16 s k (by have := HA.out; omega)
      obtain ⟨P, hP⟩ : ∃ P, P = s.extract a (a + 16) := ⟨_, rfl⟩
      rw [he] at hP
      rw [← hP] at hp he
      obtain ⟨Z, hZ⟩ : ∃ Z, Z = encK key P := ⟨_, rfl⟩
      obtain ⟨Y, hY⟩ : ∃ Y, Y = decK key P := ⟨_, rfl⟩
      have hYs : Y.size = 16 := by rw [hY]; exact decK_size key P
      have c4 := fun w' (h : Since w3 w') => cenc_yes c key P hp Z hZ w' (HC.out.since h)
      have c5 := fun w' (h : Since w3 w') => cdec_yes c key P hp (decK key P) rfl w' (HC.out.since h)
      have hsz : ¬ 9223372036854775807 < O.size + Y.size := by omega
      have hO2 : O ++ Y = bs (manyL (decK key) s.data.toList (k + 1)) := by
        apply ba_ext
        rw [app_list, HO.out, list_bs, list_bs, manyL_succ, hY, hP]
      have i1 : (0 : Int) ≤ (a : Int) := by omega
      have i2 : (a : Int) + 16 ≤ (s.size : Int) := by omega
      have HYZ : Hid (Y = decK key P ∧ Z = encK key P) := Lib.hid ⟨hY, hZ⟩
      clear hOs hp hP hY hYs hZ
      have HO2 := Lib.hid hO2
      clear hO2
      have H_c4 := Lib.hid c4
      clear c4
      have H_c5 := Lib.hid c5
      clear c5
      go_wp2_with fail
      rw [he]
      refine (H_c4.out wr HS.out).mono ?_
      rintro x w4 ⟨rfl, h4⟩
      have HS1 := Lib.hid (Since.step HS.out h4)
      clear h4
      go_wp2_with fail
      rw [he]
      refine (H_c5.out w4 HS1.out).mono ?_
      rintro x w5 ⟨rfl, h5⟩
      have HS2 := Lib.hid (Since.step HS1.out h5)
      rw [← HYZ.out.1]
      clear h5
      go_wp2_with fail
      go_roundw
      case rel => exact ⟨a + 16, k + 1, _, by go_num, rfl, Lib.hid (by have := HA.out; omega), hlt, HO2, HS2⟩
      case measure => simp [intOf]; omega
    · have hd : decide ((a : Int) + 16 ≤ (s.size : Int)) = false := decide_eq_false (by omega)
      have hOe : O = bs (manyL (decK key) s.data.toList (s.size / 16)) := by
        rw [HO.out, show s.size / 16 = k from by have := HA.out; omega]
      have hsz : ¬ 9223372036854775807 < s.size + 1 := by omega
      have hsq : (s ++ ⟨#[48]⟩).size = s.size + 1 := by
        show (s ++ ⟨#[48]⟩).data.toList.length = _
        rw [app_list, List.length_append]; rfl
      obtain ⟨T, hT⟩ : ∃ T, T = s ++ ⟨#[48]⟩ := ⟨_, rfl⟩
      rw [← hT] at hsq
      have HOs : Hid (O.size = a) := Lib.hid hOs
      clear hOs
      by_cases h15 : s.size = 15
      · have hf := cenc_yes c key T (by omega) _ rfl wr (HC.out.since HS.out)
        have g1 : ((s.size : Int) == 15) = true := by rw [beq_iff_eq]; omega
        have g2 : ((s.size : Int) != 15) = false := by rw [bne_eq_false_iff_eq]; omega
        rcases HE.out with he | ⟨he, hA⟩
        · have Hf := Lib.hid hf
          clear hf
          have HOe := Lib.hid hOe
          clear hOe
          clear h15 hsq
          go_wp2_with fail
          rw [← hT]
          refine Hf.out.mono ?_
          rintro x w5 ⟨rfl, h5⟩
          have H5 := Lib.hid (Since.step (Since.step H3.out HS.out) h5)
          clear h5
          go_wp2_with fail
          refine awake_mak.calls H5.out ?_
          intro w6 h6
          have H6 := Lib.hid h6
          clear h6
          go_wp2_with fail
          go_ret
          exact ⟨rfl, H6.out⟩
        · rw [← hA] at hOe
          subst hOe
          have he2 : (e == 0) = true := by rw [beq_iff_eq]; simpa using he
          have Hf := Lib.hid hf
          clear hf
          have HA := Lib.hid hA
          clear hA
          clear h15 hsq
          go_wp2_with fail
          rw [← hT]
          refine Hf.out.mono ?_
          rintro x w5 ⟨rfl, h5⟩
          have H5 := Lib.hid (Since.step (Since.step H3.out HS.out) h5)
          clear h5
          go_wp2_with fail
          refine awake_mak.calls H5.out ?_
          intro w6 h6
          have H6 := Lib.hid h6
          clear h6
          go_wp2_with fail
          go_ret
          exact ⟨rfl, H6.out⟩
      · have hf := cenc_no c key T (by omega) (by omega) wr (HC.out.since HS.out)
        have g1 : ((s.size : Int) == 15) = false := by rw [beq_eq_false_iff_ne]; omega
        have g2 : ((s.size : Int) != 15) = true := by rw [bne_iff_ne]; omega
        rcases HE.out with he | ⟨he, hA⟩
        · have Hf := Lib.hid hf
          clear hf
          have HOe := Lib.hid hOe
          clear hOe
          clear h15 hsq
          go_wp2_with fail
          rw [← hT]
          refine Hf.out.mono ?_
          rintro x w5 ⟨rfl, h5⟩
          have H5 := Lib.hid (Since.step (Since.step H3.out HS.out) h5)
          clear h5
          go_wp2_with fail
          refine awake_mak.calls H5.out ?_
          intro w6 h6
          have H6 := Lib.hid h6
          clear h6
          go_wp2_with fail
          go_ret
          exact ⟨rfl, H6.out⟩
        · rw [← hA] at hOe
          subst hOe
          have he2 : (e == 0) = true := by rw [beq_iff_eq]; simpa using he
          have Hf := Lib.hid hf
          clear hf
          have HA := Lib.hid hA
          clear hA
          clear h15 hsq
          go_wp2_with fail
          rw [← hT]
          refine Hf.out.mono ?_
          rintro x w5 ⟨rfl, h5⟩
          have H5 := Lib.hid (Since.step (Since.step H3.out HS.out) h5)
          clear h5
          go_wp2_with fail
          refine awake_mak.calls H5.out ?_
          intro w6 h6
          have H6 := Lib.hid h6
          clear h6
          go_wp2_with fail
          go_ret
          exact ⟨rfl, H6.out⟩
theorem walk (a0 a1 : ByteArray) (a2 : Bool) (w0 : a0.size ≤ maxLen) (w1 : a1.size ≤ maxLen) (w : World) :
    Calls Try.prog 4 #[.string a0, .string a1, .bool a2] w fun e w' => e = .returned (.bool true) ∧ Below w.heap.size w w' := by
  unfold maxLen at w0 w1
  by_cases h1 : a0.size ≤ 100
  · by_cases h2 : a1.size ≤ 160
    · by_cases hk : keyOk a0
      · cases a2
        · by_cases hs : a1.size % 16 = 0
          · exact core_f a0 a1 hk (by omega) _ 0 (Or.inr ⟨rfl, rfl⟩) (many_yes a0 a1 false hk hs (by omega) _ rfl) (RefAes.many_yes a0 a1 false hk hs (by omega) _ rfl) w
          · exact core_f a0 a1 hk (by omega) _ 4 (Or.inl rfl) (many_nosize a0 a1 false hk hs (by omega)) (RefAes.many_nosize a0 a1 false hk hs (by omega)) w
        · by_cases hs : a1.size % 16 = 0
          · exact core_t a0 a1 hk (by omega) _ 0 (Or.inr ⟨rfl, rfl⟩) (many_yes a0 a1 true hk hs (by omega) _ rfl) (RefAes.many_yes a0 a1 true hk hs (by omega) _ rfl) w
          · exact core_t a0 a1 hk (by omega) _ 4 (Or.inl rfl) (many_nosize a0 a1 true hk hs (by omega)) (RefAes.many_nosize a0 a1 true hk hs (by omega)) w
      · have hk2 := hk
        unfold keyOk at hk2
        exact core_no a0 a1 a2 (by omega) (by omega) (many_nokey a0 a1 a2 (by omega) hk) (RefAes.many_nokey a0 a1 a2 (by omega) hk) (new_no a0 (by omega) hk) (RefSched.rounds_no _ (by omega)) w
    · have H0 := Lib.hid (Since.refl w)
      go_enter Try.func4, Try.ntmps4
      go_wp2_with fail
      all_goals
        refine awake_mak.calls H0.out ?_
        intro w1 h1
        have H1 := Lib.hid h1
        clear h1
        go_wp2_with fail
        go_ret
        exact ⟨rfl, H1.out⟩
  · have H0 := Lib.hid (Since.refl w)
    go_enter Try.func4, Try.ntmps4
    go_wp2_with fail
    all_goals
      refine awake_mak.calls H0.out ?_
      intro w1 h1
      have H1 := Lib.hid h1
      clear h1
      go_wp2_with fail
      go_ret
      exact ⟨rfl, H1.out⟩

theorem own : ownKnob Try.prog.godebug = none := by kernel_rfl

set_option maxRecDepth 100000 in
theorem lifted (os : Os) (started : os.Started) (H : Type) (enc : TypeId × Value → H) :
    ReturnsInHanded {} Try.checked os 4 .any (Rows.aesManySpec.pre6 enc Try.prog Try.f4 Rows.aesManyRow.domain false) (Rows.aesManySpec.post enc Try.prog Try.f4 false true false false) := by
  refine returnsInHanded_of_change (C := Try.checked) own started (by kernel_rfl) Try.func4
    (ChangeSpec.witness6 (enc := enc) (C := Try.checked) false ⟨#[], #[.string ⟨#[]⟩, .string ⟨#[]⟩, .bool false], []⟩ 8 (by kernel_rfl) (by kernel_rfl) (by kernel_rfl) (by kernel_rfl)) ?_
  intro W base args ds gs before hval0 hW hcnd _
  have hval : ∀ (j : Nat) t v, Try.f4.params[j]? = some t → args[j]? = some v → Value.okWide Try.prog W .any base t v := hval0
  have hW' := hW
  obtain ⟨p, q, hA0, hV, rfl, hfz, hnd⟩ := hW
  have hA : DataW.TrodAll enc Try.prog W 0 (fun _ => true) true Try.f4.params.toList args.toList ds p := hA0
  rw [Try.params4] at hA hval
  obtain ⟨v0, vs0, d0, ds0, p0, q0, hargs, rfl, rfl, h0, r0⟩ := trodAll_cons hA
  obtain ⟨v1, vs1, d1, ds1, p1, q1, rfl, rfl, rfl, h1, r1⟩ := trodAll_cons r0
  obtain ⟨v2, vs2, d2, ds2, p2, q2, rfl, rfl, rfl, h2, r2⟩ := trodAll_cons r1
  obtain ⟨rfl, rfl, rfl⟩ := trodAll_nil r2
  obtain rfl : args = #[v0, v1, v2] := by cases args; simp_all
  obtain ⟨rfl, rfl⟩ := trodVars_none hV
  obtain ⟨a0, rfl, rfl, rfl, w0⟩ := Go.ChangeMaps.open_string Try.underlying9 (hval 0 9 v0 rfl rfl) h0
  obtain ⟨a1, rfl, rfl, rfl, w1⟩ := Go.ChangeMaps.open_string Try.underlying9 (hval 1 9 v1 rfl rfl) h1
  obtain ⟨a2, rfl, rfl, rfl⟩ := open_bool Try.underlying4 (hval 2 4 v2 rfl rfl) h2
  clear hA0 hval0
  simp only [List.append_nil] at hW'
  refine (walk a0 a1 a2 w0 w1 W).mono fun e W' ⟨he, hg⟩ => ?_
  subst he
  exact ⟨_, rfl, _, _, _, _, _, [], hW', (trodAll_cons_mk (shut_bool Try.underlying4 _) trodAll_mk0), (trodAll_cons_mk (Go.ChangeMaps.shut_string Try.underlying9 w0) (trodAll_cons_mk (Go.ChangeMaps.shut_string Try.underlying9 w1) (trodAll_cons_mk (shut_bool Try.underlying4 _) trodAll_mk0))), rfl, hg.frame _, fun h => by cases h⟩

theorem over : Rows.aesManyRow.holds Try.pinned (OpenSpec.ofChange Rows.aesManySpec) :=
  OpenClaim.holds_of_wide 4 Try.f4 rfl rfl rfl rfl rfl rfl rfl ⟨rfl, rfl, rfl, rfl, rfl⟩ rfl rfl rfl rfl rfl (by kernel_rfl) Try.func4 (by kernel_rfl)
    (of_decide_eq_true (by kernel_rfl)) (by unfold Func.isWrapper; first | (rw [if_pos (by decide +kernel)]; kernel_rfl) | (rw [if_neg (by decide +kernel)]; exact ⟨rfl, rfl⟩))
    (fun os started H enc _ => lifted os started H enc)

theorem proved : Rows.AesManySaid :=
  over

end Go.Proofs.Ytijpmfnomdngpaa.aesMany
