/- Joined texts. -/
-- PACK: YtgbfdgopinnlbaaCmac3 YtgbfdgopinnlbaaRefCmac2 YtgbfdgopinnlbaaRefCbc YtgbfdgopinnlbaaCbcAwake
import Derived.Test.YtgbfdgopinnlbaaPk32
import Derived.Test.YtgbfdgopinnlbaaPk30
import Derived.Test.YtgbfdgopinnlbaaPk16

/- Package cmac: tags. -/
namespace Go.Proofs.Ytgbfdgopinnlbaa
open Go.RowKit
namespace Cmac
open Rnd Aes

set_option maxRecDepth 100000 in
theorem tag_no (key s : ByteArray) (hm : key.size ≤ 1000000) (hk : ¬ keyOk key) : Ret 57 #[.string key, .string s] (.tuple #[.string ⟨#[]⟩, .int .i64 2]) := by
  intro w
  have c1 := new_no key hm hk
  clear hk
  go_enter Try.func57, Try.ntmps57
  go_wp2_with fail
  refine (c1).calls ?_
  go_wp2_with fail
  go_ret2
  exact ⟨rfl, rfl⟩
theorem cut_pc (s : ByteArray) (a k : Nat) (ha : a = 16 * k) (h : a < s.size ∨ s.size = 0 ∧ k = 0) (hm : s.size ≤ 9223372036854775807) (P : ByteArray) (hP : P = Oct.pc s.data.toList 16 k) : Ret 86 #[.string s, .int .i64 (a : Int), .int .i64 16] (.string P) := by
  intro w
  rcases h with h | ⟨h, hk⟩
  · have h1 := Oct.cut_yes s a 16 w hm (by decide) h (by decide)
    rw [ha] at h1
    rw [hP, ha]; exact h1
  · have h1 := Oct.cut_no s (a : Int) 16 w hm (by omega)
    have hl : s.data.toList = [] := List.eq_nil_of_length_eq_zero h
    rw [hP, Oct.pc, hl]
    have e : bs (List.take 16 (List.drop (16 * k) [])) = ⟨#[]⟩ := by rw [List.drop_nil, List.take_nil]; rfl
    rw [e]; exact h1
theorem blkN_pos (n : Nat) : 1 ≤ blkN n := by unfold blkN; split <;> omega
theorem blk_in (s : Nat) (k : Nat) (h : k < blkN s) : 16 * k < s ∨ s = 0 ∧ k = 0 := by
  unfold blkN at h
  split at h <;> omega
theorem blk_full (s k : Nat) (h : k + 1 < blkN s) : 16 * k + 16 ≤ s := by
  unfold blkN at h
  split at h <;> omega
theorem pc_le (l : List UInt8) (k : Nat) : (Oct.pc l 16 k).size ≤ 16 := by
  unfold Oct.pc
  rw [size_bs, List.length_take]; omega
/-- the state behind k blocks -/
def stK (key s : ByteArray) (k : Nat) : ByteArray := if k = blkN s.size then tagK key s else tagS key s.data.toList k
theorem stK_size (key s : ByteArray) (k : Nat) : (stK key s k).size = 16 := by
  unfold stK
  split
  · exact tagK_size _ _
  · exact tagS_size _ _ _
set_option maxRecDepth 100000 in
set_option maxHeartbeats 2000000 in
theorem tag_yes (key s : ByteArray) (hk : keyOk key) (hm : s.size ≤ 1000000) (X : ByteArray) (hX : X = tagK key s) : Mak 57 #[.string key, .string s] (.tuple #[.string X, .int .i64 0]) := by
  intro w
  have H0 := Lib.hid (Since.refl w)
  have c1 := new_key key hk
  obtain ⟨A, hA⟩ : ∃ A, A = sub1 key := ⟨_, rfl⟩
  obtain ⟨B, hB⟩ : ∃ B, B = sub2 key := ⟨_, rfl⟩
  obtain ⟨Z, hZ⟩ : ∃ Z, Z = zero := ⟨_, rfl⟩
  have c2 := fun c w' (h : CipK w' c key) => subkeys_calls c key w' h A B hA hB
  have c3 := zeros_m
  rw [← hZ] at c3
  obtain ⟨n, hn⟩ : ∃ n, n = blkN s.size := ⟨_, rfl⟩
  have c4 := blocks_nat s.size (by omega) (n : Int) (by rw [hn])
  have hn1 : 1 ≤ n := by rw [hn]; exact blkN_pos _
  have hn9 : n ≤ 1000001 := by rw [hn, blkN]; split <;> omega
  have HN := Lib.hid hn
  have HX := Lib.hid hX
  have HA := Lib.hid hA
  have HB := Lib.hid hB
  have HZ := Lib.hid hZ
  clear hk hX hA hB hZ hn
  have H_c2 := Lib.hid c2
  clear c2
  go_enter Try.func57, Try.ntmps57
  go_wp2_with fail
  refine c1 _ _ H0.out _ ?_
  intro c w1 hC _ h1
  have HC := Lib.hid hC
  have H1 := Lib.hid h1
  clear hC h1
  go_wp2_with fail
  refine (H_c2.out c w1 HC.out).mono ?_
  rintro e w2 ⟨rfl, h2⟩
  have H2 := Lib.hid (Since.step H1.out h2)
  have HC2 := Lib.hid (HC.out.since h2)
  clear h2 HC
  have HW := Lib.hid (Since.refl w2)
  go_wp2_with fail
  refine (c3).calls HW.out ?_
  intro w3 h3
  have H3 := Lib.hid h3
  clear h3
  go_wp2_with fail
  refine (c4).calls ?_
  go_wp2_with fail
  go_loopw [10, 36] (fun v i wr => ∃ (k : Nat) (V : ByteArray), k ≤ n ∧ i = .int .i64 (k : Int) ∧ v = .string V ∧ Hid (V = stK key s k) ∧ Hid (Since w2 wr)) (fun _ i _ => n - (intOf i).toNat)
  case atStart => exact ⟨0, Z, by omega, rfl, rfl, Lib.hid (by rw [stK, if_neg (by rw [← HN.out]; omega), HZ.out]; rfl), H3⟩
  case round =>
    obtain ⟨k, V, hkn, rfl, rfl, HV, HS⟩ := hrel
    by_cases hlt : k < n
    · have hd : decide ((k : Int) < (n : Int)) = true := decide_eq_true (by omega)
      obtain ⟨a, ha⟩ : ∃ a, a = 16 * k := ⟨_, rfl⟩
      have e1 : (k : Int) * 16 = (a : Int) := by omega
      obtain ⟨P, hP⟩ : ∃ P, P = Oct.pc s.data.toList 16 k := ⟨_, rfl⟩
      have c5 := cut_pc s a k ha (by have h := blk_in s.size k (by rw [← HN.out]; exact hlt); omega) (by omega) P hP
      have hP16 : P.size ≤ 16 := by rw [hP]; exact pc_le _ _
      have hVs : V.size = 16 := by rw [HV.out]; exact stK_size _ _ _
      have hV2 : V = tagS key s.data.toList k := by rw [HV.out, stK, if_neg (by rw [← HN.out]; omega)]
      by_cases hl : k + 1 = n
      · have t1 : ((k : Int) == (n : Int) - 1) = true := by rw [beq_iff_eq]; omega
        obtain ⟨L, hL⟩ : ∃ L, L = lastB key P := ⟨_, rfl⟩
        have c6 := last_mak key P A B L hP16 HA.out HB.out hL
        have hLs : L.size = 16 := by rw [hL]; exact lastB_size key P hP16
        obtain ⟨Q, hQ⟩ : ∃ Q, Q = Sched.xorS V L := ⟨_, rfl⟩
        have c7 := Sched.xor_m V L (by omega) (by omega) Q hQ
        have hQs : Q.size = 16 := by rw [hQ]; exact Cbc.xor16_size _ _ hVs hLs
        obtain ⟨Y, hY⟩ : ∃ Y, Y = encK key Q := ⟨_, rfl⟩
        have hYs : Y = stK key s (k + 1) := by
          rw [stK, if_pos (by rw [← HN.out]; exact hl), tagK, ← HN.out, show n - 1 = k from by omega, ← hP, ← hL, ← hV2, ← hQ, hY]
        have c8 := fun w' (h : Since w2 w') => cenc_yes c key Q hQs Y hY w' (HC2.out.since h)
        clear hP hP16 hVs hV2 hl hL hLs hQ hQs hY ha
        have HYs := Lib.hid hYs
        clear hYs
        have H_c8 := Lib.hid c8
        clear c8
        go_wp2_with fail
        refine (c5).calls ?_
        go_wp2_with fail
        refine c6.calls HS.out ?_
        intro w4 h4
        have H4 := Lib.hid h4
        clear h4
        go_wp2_with fail
        refine c7.calls H4.out ?_
        intro w5 h5
        have H5 := Lib.hid h5
        clear h5
        go_wp2_with fail
        refine (H_c8.out _ H5.out).mono ?_
        rintro e w6 ⟨rfl, h6⟩
        have H6 := Lib.hid (Since.step H5.out h6)
        clear h6
        go_wp2_with fail
        go_roundw
        case rel => exact ⟨k + 1, Y, by omega, by go_num, rfl, HYs, H6⟩
        case measure => simp [intOf]; omega
      · have t1 : ((k : Int) == (n : Int) - 1) = false := by rw [beq_eq_false_iff_ne]; omega
        have hPs : P.size = 16 := by
          have := blk_full s.size k (by rw [← HN.out]; omega)
          rw [hP]; exact Cbc.pc_size _ _ (by show 16 * k + 16 ≤ s.size; omega)
        obtain ⟨Q, hQ⟩ : ∃ Q, Q = Sched.xorS V P := ⟨_, rfl⟩
        have c7 := Sched.xor_m V P (by omega) (by omega) Q hQ
        have hQs : Q.size = 16 := by rw [hQ]; exact Cbc.xor16_size _ _ hVs hPs
        obtain ⟨Y, hY⟩ : ∃ Y, Y = encK key Q := ⟨_, rfl⟩
        have hYs : Y = stK key s (k + 1) := by
          rw [stK, if_neg (by rw [← HN.out]; exact hl), tagS, ← hP, ← hV2, ← hQ, hY]
        have c8 := fun w' (h : Since w2 w') => cenc_yes c key Q hQs Y hY w' (HC2.out.since h)
        clear hP hP16 hVs hV2 hl hPs hQ hQs hY ha
        have HYs := Lib.hid hYs
        clear hYs
        have H_c8 := Lib.hid c8
        clear c8
        go_wp2_with fail
        refine (c5).calls ?_
        go_wp2_with fail
        refine c7.calls HS.out ?_
        intro w4 h4
        have H4 := Lib.hid h4
        clear h4
        go_wp2_with fail
        refine (H_c8.out _ H4.out).mono ?_
        rintro e w6 ⟨rfl, h6⟩
        have H6 := Lib.hid (Since.step H4.out h6)
        clear h6
        go_wp2_with fail
        go_roundw
        case rel => exact ⟨k + 1, Y, by omega, by go_num, rfl, HYs, H6⟩
        case measure => simp [intOf]; omega
    · have hd : decide ((k : Int) < (n : Int)) = false := decide_eq_false (by omega)
      have e : V = X := by rw [HV.out, HX.out, stK, if_pos (by rw [← HN.out]; omega)]
      subst e
      go_wp2_with fail
      go_ret2
      exact ⟨rfl, Since.step H2.out HS.out⟩
end Cmac
end Go.Proofs.Ytgbfdgopinnlbaa

/- The reference of cmac: subkeys, tags. -/
namespace Go.Proofs.Ytgbfdgopinnlbaa
open Go.RowKit
namespace RefCmac
open Rnd Aes Cmac

theorem zeros_m : Mak 64 #[.int .i64 16] (.string zero) := RefOct.zeros_yes 16 (by decide) (by decide)
set_option maxRecDepth 100000 in
theorem subkeys_yes (key : ByteArray) (hk : keyOk key) (A B : ByteArray) (hA : A = sub1 key) (hB : B = sub2 key) : Mak 63 #[.string key] (.tuple #[.string A, .string B, .int .i64 0]) := by
  intro w
  have H0 := Lib.hid (Since.refl w)
  obtain ⟨Z, hZ⟩ : ∃ Z, Z = zero := ⟨_, rfl⟩
  obtain ⟨Y, hY⟩ : ∃ Y, Y = encK key Z := ⟨_, rfl⟩
  have c1 := zeros_m
  rw [← hZ] at c1
  have c2 := RefAes.enc_yes key Z hk (by rw [hZ, zero_size]) Y hY
  have c3 := RefCmac.double_yes Y (by rw [hY, encK_size]) A (by rw [hA, sub1, hY, hZ])
  have c4 := RefCmac.double_yes A (by rw [hA, sub1_size]) B (by rw [hB, sub2, hA])
  clear hk hZ hY hA hB
  go_enter Try.func63, Try.ntmps63
  go_wp2_with fail
  refine c1.calls H0.out ?_
  intro w1 h1
  have H1 := Lib.hid h1
  clear h1
  go_wp2_with fail
  refine c2.calls H1.out ?_
  intro w2 h2
  have H2 := Lib.hid h2
  clear h2
  go_wp2_with fail
  refine c3.calls H2.out ?_
  intro w3 h3
  have H3 := Lib.hid h3
  clear h3
  go_wp2_with fail
  refine c3.calls H3.out ?_
  intro w4 h4
  have H4 := Lib.hid h4
  clear h4
  go_wp2_with fail
  refine c4.calls H4.out ?_
  intro w5 h5
  have H5 := Lib.hid h5
  clear h5
  go_wp2_with fail
  go_ret3
  exact ⟨rfl, H5.out⟩
set_option maxRecDepth 100000 in
theorem subkeys_no (key : ByteArray) (hm : key.size ≤ 1000000) (hk : ¬ keyOk key) : Mak 63 #[.string key] (.tuple #[.string ⟨#[]⟩, .string ⟨#[]⟩, .int .i64 2]) := by
  intro w
  have H0 := Lib.hid (Since.refl w)
  obtain ⟨Z, hZ⟩ : ∃ Z, Z = zero := ⟨_, rfl⟩
  have c1 := zeros_m
  rw [← hZ] at c1
  have c2 := RefAes.enc_nokey key Z hm hk
  clear hk hZ
  go_enter Try.func63, Try.ntmps63
  go_wp2_with fail
  refine c1.calls H0.out ?_
  intro w1 h1
  have H1 := Lib.hid h1
  clear h1
  go_wp2_with fail
  refine (c2).calls ?_
  go_wp2_with fail
  go_ret3
  exact ⟨rfl, H1.out⟩
set_option maxRecDepth 100000 in
theorem blocks_neg (n : Int) (h : n < 0) : Ret 59 #[.int .i64 n] (.int .i64 0) := by
  intro w
  go_enter Try.func59, Try.ntmps59
  go_wp2_with fail
  go_ret
  exact ⟨rfl, rfl⟩
set_option maxRecDepth 100000 in
theorem blocks_nat (n : Nat) (hm : n ≤ 9223372036854775807) (x : Int) (hx : x = ((blkN n : Nat) : Int)) : Ret 59 #[.int .i64 (n : Int)] (.int .i64 x) := by
  intro w
  by_cases h0 : n = 0
  · subst h0
    have hx1 : x = 1 := hx
    subst hx1
    clear hx
    go_enter Try.func59, Try.ntmps59
    go_wp2_with fail
    go_ret
    exact ⟨rfl, rfl⟩
  · have hx1 : x = ((n : Int) - 1) / 16 + 1 := by rw [hx, blkN, if_neg h0]; omega
    subst hx1
    have t1 : decide ((n : Int) < 0) = false := decide_eq_false (by omega)
    have t2 : ((n : Int) == 0) = false := by rw [beq_eq_false_iff_ne]; omega
    have i1 : (0 : Int) ≤ (n : Int) - 1 := by omega
    clear h0 hx
    go_enter Try.func59, Try.ntmps59
    go_wp2_with fail
    go_ret
    exact ⟨rfl, rfl⟩
set_option maxRecDepth 100000 in
theorem tag_no (key s : ByteArray) (hm : key.size ≤ 1000000) (hk : ¬ keyOk key) : Mak 40 #[.string key, .string s] (.tuple #[.string ⟨#[]⟩, .int .i64 2]) := by
  intro w
  have H0 := Lib.hid (Since.refl w)
  have c1 := RefCmac.subkeys_no key hm hk
  clear hk
  go_enter Try.func40, Try.ntmps40
  go_wp2_with fail
  refine c1.calls H0.out ?_
  intro w1 h1
  have H1 := Lib.hid h1
  clear h1
  go_wp2_with fail
  go_ret2
  exact ⟨rfl, H1.out⟩
theorem pad_ref (b J P : ByteArray) (hb : b.size ≤ 15) (hJ : J = b ++ ⟨#[128]⟩) (hP : P = padB b) : Mak 66 #[.string J, .int .i64 16] (.string P) := by
  have h9 : b.data.toList.length = b.size := rfl
  have hJs : J.size = b.size + 1 := by
    show J.data.toList.length = _
    rw [hJ, app_list, List.length_append]; rfl
  have h := RefOct.pad_yes J 16 (by omega) (by decide) (by decide) (15 - b.size) (by rw [hJs]; omega) (fun k hk => by rw [hJs]; omega) (by omega)
  have e : bs (J.data.toList ++ List.replicate (15 - b.size) 0) = P := by
    rw [hP, hJ, padB, app_list, List.append_assoc]; rfl
  rw [e] at h
  exact h
theorem drop_pc (s R : ByteArray) (k : Nat) (hR : R.data.toList = s.data.toList.drop (16 * k)) : R.extract 0 16 = Oct.pc s.data.toList 16 k := by
  apply ba_ext
  rw [ext_list, hR, Oct.pc, list_bs, List.drop_zero]
theorem drop_next (s R : ByteArray) (k : Nat) (hR : R.data.toList = s.data.toList.drop (16 * k)) : (R.extract 16 R.size).data.toList = s.data.toList.drop (16 * (k + 1)) := by
  have h9 : R.data.toList.length = R.size := rfl
  rw [ext_list, List.take_of_length_le (by rw [List.length_drop]; omega), hR, List.drop_drop]
  congr 1
theorem rest_pc (s R : ByteArray) (k : Nat) (hR : R.data.toList = s.data.toList.drop (16 * k)) (h : R.size ≤ 16) : R = Oct.pc s.data.toList 16 k := by
  have h9 : R.data.toList.length = R.size := rfl
  apply ba_ext
  rw [Oct.pc, list_bs, ← hR, List.take_of_length_le (by omega)]
set_option maxRecDepth 100000 in
set_option maxHeartbeats 2000000 in
theorem tag_yes (key s : ByteArray) (hk : keyOk key) (hm : s.size ≤ 1000000) (X : ByteArray) (hX : X = tagK key s) : Mak 40 #[.string key, .string s] (.tuple #[.string X, .int .i64 0]) := by
  intro w
  have H0 := Lib.hid (Since.refl w)
  obtain ⟨A, hA⟩ : ∃ A, A = sub1 key := ⟨_, rfl⟩
  obtain ⟨B, hB⟩ : ∃ B, B = sub2 key := ⟨_, rfl⟩
  obtain ⟨Z, hZ⟩ : ∃ Z, Z = zero := ⟨_, rfl⟩
  have c1 := RefCmac.subkeys_yes key hk A B hA hB
  have c3 := zeros_m
  rw [← hZ] at c3
  have HX := Lib.hid hX
  have HA := Lib.hid hA
  have HB := Lib.hid hB
  have HZ := Lib.hid hZ
  have HK := Lib.hid hk
  clear hk hX hA hB hZ
  go_enter Try.func40, Try.ntmps40
  go_wp2_with fail
  refine c1.calls H0.out ?_
  intro w1 h1
  have H1 := Lib.hid h1
  clear h1
  go_wp2_with fail
  refine c3.calls H1.out ?_
  intro w2 h2
  have H2 := Lib.hid h2
  clear h2
  go_wp2_with fail
  go_loopw [1, 9] (fun t v wr => ∃ (k : Nat) (R V : ByteArray), t = .string R ∧ v = .string V ∧ Hid (R.data.toList = s.data.toList.drop (16 * k)) ∧ R.size ≤ 1000000 ∧ Hid (16 * k < s.size ∨ k = 0) ∧ Hid (V = tagS key s.data.toList k) ∧ Hid (Since w wr)) (fun t _ _ => match t with | .string r => r.size | _ => 0)
  case atStart => exact ⟨0, s, Z, rfl, rfl, Lib.hid rfl, hm, Lib.hid (Or.inr rfl), Lib.hid (by rw [HZ.out]; rfl), H2⟩
  case round =>
    obtain ⟨k, R, V, rfl, rfl, HR, hR9, HK0, HV, HS⟩ := hrel
    have hVs : V.size = 16 := by rw [HV.out]; exact tagS_size _ _ _
    have hRs : R.size = s.size - 16 * k := by
      show R.data.toList.length = _
      rw [HR.out, List.length_drop]; rfl
    by_cases hlt : 16 < R.size
    · have hd : decide ((16 : Int) < (R.size : Int)) = true := decide_eq_true (by omega)
      obtain ⟨P, hP⟩ : ∃ P, P = Oct.pc s.data.toList 16 k := ⟨_, rfl⟩
      have he := drop_pc s R k HR.out
      rw [← hP] at he
      have hn := drop_next s R k HR.out
      have hPs : P.size = 16 := by rw [hP]; exact Cbc.pc_size _ _ (by show 16 * k + 16 ≤ s.size; omega)
      obtain ⟨Q, hQ⟩ : ∃ Q, Q = Sched.xorS V P := ⟨_, rfl⟩
      have c7 := RefSched.xor_m V P (by omega) (by omega) Q hQ
      have hQs : Q.size = 16 := by rw [hQ]; exact Cbc.xor16_size _ _ hVs hPs
      obtain ⟨Y, hY⟩ : ∃ Y, Y = encK key Q := ⟨_, rfl⟩
      have hYs : Y = tagS key s.data.toList (k + 1) := by rw [tagS, ← hP, ← HV.out, ← hQ, hY]
      have c8 := RefAes.enc_yes key Q HK.out hQs Y hY
      have hk1 : 16 * (k + 1) < s.size ∨ k + 1 = 0 := by omega
      have i1 : (16 : Int) ≤ (R.size : Int) := by omega
      have hz : (R.extract 16 R.size).size < R.size := by
        show (R.extract 16 R.size).data.toList.length < _
        rw [hn, List.length_drop]
        have : s.data.toList.length = s.size := rfl
        omega
      clear hP hPs hVs hRs hQ hQs hY
      have HYs := Lib.hid hYs
      clear hYs
      have Hn := Lib.hid hn
      clear hn
      have Hk1 := Lib.hid hk1
      clear hk1
      have Hz := Lib.hid hz
      clear hz
      go_wp2_with fail
      refine c7.calls HS.out ?_
      intro w3 h3
      have H3 := Lib.hid h3
      clear h3
      go_wp2_with fail
      refine c8.calls H3.out ?_
      intro w4 h4
      have H4 := Lib.hid h4
      clear h4
      go_wp2_with fail
      go_roundw
      case rel => exact ⟨k + 1, _, Y, rfl, rfl, Hn, by have := Hz.out; omega, Hk1, HYs, H4⟩
      case measure => exact Hz.out
    · have hd : decide ((16 : Int) < (R.size : Int)) = false := decide_eq_false (by omega)
      obtain ⟨P, hP⟩ : ∃ P, P = Oct.pc s.data.toList 16 k := ⟨_, rfl⟩
      have hRP := rest_pc s R k HR.out (by omega)
      rw [← hP] at hRP
      have hkn : blkN s.size - 1 = k := by
        rcases HK0.out with h | h
        · unfold blkN; split <;> omega
        · subst h; unfold blkN; split <;> omega
      obtain ⟨L, hL⟩ : ∃ L, L = lastB key R := ⟨_, rfl⟩
      have hLs : L.size = 16 := by rw [hL]; exact lastB_size key R (by omega)
      obtain ⟨Q, hQ⟩ : ∃ Q, Q = Sched.xorS V L := ⟨_, rfl⟩
      have c7 := RefSched.xor_m V L (by omega) (by omega) Q hQ
      have hQs : Q.size = 16 := by rw [hQ]; exact Cbc.xor16_size _ _ hVs hLs
      have c8 := RefAes.enc_yes key Q HK.out hQs X (by rw [HX.out, tagK, hkn, ← hP, ← hRP, ← hL, ← HV.out, ← hQ])
      by_cases h16 : R.size = 16
      · have t1 : ((R.size : Int) == 16) = true := by rw [beq_iff_eq]; omega
        have hAs : A.size = 16 := by rw [HA.out, sub1_size]
        have c5 := RefSched.xor_m R A (by omega) (by omega) L (by rw [hL, lastB, if_pos h16, HA.out])
        clear hP hRP hkn hL hLs hQ hQs hVs hRs h16 hAs hlt
        go_wp2_with fail
        refine c5.calls HS.out ?_
        intro w3 h3
        have H3 := Lib.hid h3
        clear h3
        go_wp2_with fail
        refine c7.calls H3.out ?_
        intro w4 h4
        have H4 := Lib.hid h4
        clear h4
        go_wp2_with fail
        refine c8.calls H4.out ?_
        intro w5 h5
        have H5 := Lib.hid h5
        clear h5
        go_wp2_with fail
        go_ret2
        exact ⟨rfl, H5.out⟩
      · have t1 : ((R.size : Int) == 16) = false := by rw [beq_eq_false_iff_ne]; omega
        have hBs : B.size = 16 := by rw [HB.out, sub2_size]
        obtain ⟨J, hJ⟩ : ∃ J, J = R ++ ⟨#[128]⟩ := ⟨_, rfl⟩
        obtain ⟨D, hD⟩ : ∃ D, D = padB R := ⟨_, rfl⟩
        have hDs : D.size = 16 := by rw [hD]; exact padB_size R (by omega)
        have c4 := pad_ref R J D (by omega) hJ hD
        have c5 := RefSched.xor_m D B (by omega) (by omega) L (by rw [hL, lastB, if_neg h16, HB.out, hD])
        have hsz : ¬ 9223372036854775807 < R.size + 1 := by omega
        clear hP hRP hkn hL hLs hQ hQs hVs hRs h16 hBs hD hDs hlt
        have HJ := Lib.hid hJ
        clear hJ
        go_wp2_with fail
        rw [← HJ.out]
        refine c4.calls HS.out ?_
        intro w3 h3
        have H3 := Lib.hid h3
        clear h3
        go_wp2_with fail
        refine c5.calls H3.out ?_
        intro w4 h4
        have H4 := Lib.hid h4
        clear h4
        go_wp2_with fail
        refine c7.calls H4.out ?_
        intro w5 h5
        have H5 := Lib.hid h5
        clear h5
        go_wp2_with fail
        refine c8.calls H5.out ?_
        intro w6 h6
        have H6 := Lib.hid h6
        clear h6
        go_wp2_with fail
        go_ret2
        exact ⟨rfl, H6.out⟩
end RefCmac
end Go.Proofs.Ytgbfdgopinnlbaa

/- The reference of cbc. -/
namespace Go.Proofs.Ytgbfdgopinnlbaa
open Go.RowKit
namespace RefCbc
open Rnd Aes RefAes Cbc

set_option maxRecDepth 100000 in
theorem bad_nokey (key iv s : ByteArray) (_hm : key.size ≤ 1000000) (hk : ¬ keyOk key) : Ret 60 #[.string key, .string iv, .string s] (.int .i64 2) := by
  intro w
  unfold keyOk at hk
  have a1 : ((key.size : Int) != 16) = true := by rw [bne_iff_ne]; omega
  have a2 : ((key.size : Int) != 24) = true := by rw [bne_iff_ne]; omega
  have a3 : ((key.size : Int) != 32) = true := by rw [bne_iff_ne]; omega
  have b1 : ((key.size : Int) == 16) = false := by rw [beq_eq_false_iff_ne]; omega
  have b2 : ((key.size : Int) == 24) = false := by rw [beq_eq_false_iff_ne]; omega
  have b3 : ((key.size : Int) == 32) = false := by rw [beq_eq_false_iff_ne]; omega
  clear hk
  go_enter Try.func60, Try.ntmps60
  go_wp2_with fail
  go_ret
  exact ⟨rfl, rfl⟩
set_option maxRecDepth 100000 in
theorem bad_key (key iv s : ByteArray) (hk : keyOk key) (e : Int) (he : iv.size ≠ 16 ∧ e = 1 ∨ iv.size = 16 ∧ s.size % 16 ≠ 0 ∧ e = 4 ∨ iv.size = 16 ∧ s.size % 16 = 0 ∧ e = 0) (hm : s.size ≤ 140737488355328) : Ret 60 #[.string key, .string iv, .string s] (.int .i64 e) := by
  intro w
  unfold keyOk at hk
  obtain ⟨t1, ht1⟩ : ∃ t, ((iv.size : Int) == 16) = t := ⟨_, rfl⟩
  obtain ⟨t2, ht2⟩ : ∃ t, ((s.size : Int) % 16 == 0) = t := ⟨_, rfl⟩
  have n1 : ((iv.size : Int) != 16) = !t1 := by rw [← ht1]; rfl
  have n2 : ((s.size : Int) % 16 != 0) = !t2 := by rw [← ht2]; rfl
  have hv : t1 = false ∧ e = 1 ∨ t1 = true ∧ t2 = false ∧ e = 4 ∨ t1 = true ∧ t2 = true ∧ e = 0 := by
    rcases he with ⟨h, h2⟩ | ⟨h, h1, h2⟩ | ⟨h, h1, h2⟩
    · exact Or.inl ⟨by rw [← ht1, beq_eq_false_iff_ne]; omega, h2⟩
    · exact Or.inr (Or.inl ⟨by rw [← ht1, beq_iff_eq]; omega, by rw [← ht2, beq_eq_false_iff_ne]; omega, h2⟩)
    · exact Or.inr (Or.inr ⟨by rw [← ht1, beq_iff_eq]; omega, by rw [← ht2, beq_iff_eq]; omega, h2⟩)
  clear he
  rcases hk with hk | hk | hk
  all_goals
    have hki : (key.size : Int) = _ := congrArg (fun n : Nat => (n : Int)) hk
    clear hk
    rcases hv with ⟨rfl, rfl⟩ | ⟨rfl, rfl, rfl⟩ | ⟨rfl, rfl, rfl⟩
  all_goals
    simp only [Bool.not_true, Bool.not_false] at n1 n2
    go_enter Try.func60, Try.ntmps60
    go_wp2_with fail
    go_ret
    exact ⟨rfl, rfl⟩
set_option maxRecDepth 100000 in
theorem enc_bad (key iv s : ByteArray) (e : Int) (hne : (e != 0) = true) (c1 : Ret 60 #[.string key, .string iv, .string s] (.int .i64 e)) : Ret 56 #[.string key, .string iv, .string s] (.tuple #[.string ⟨#[]⟩, .int .i64 e]) := by
  intro w
  have hn2 : (e == 0) = false := by rw [beq_eq_false_iff_ne]; exact bne_iff_ne.1 hne
  go_enter Try.func56, Try.ntmps56
  go_wp2_with fail
  refine (c1).calls ?_
  go_wp2_with fail
  go_ret2
  exact ⟨rfl, rfl⟩
set_option maxRecDepth 100000 in
theorem dec_bad (key iv s : ByteArray) (e : Int) (hne : (e != 0) = true) (c1 : Ret 60 #[.string key, .string iv, .string s] (.int .i64 e)) : Ret 39 #[.string key, .string iv, .string s] (.tuple #[.string ⟨#[]⟩, .int .i64 e]) := by
  intro w
  have hn2 : (e == 0) = false := by rw [beq_eq_false_iff_ne]; exact bne_iff_ne.1 hne
  go_enter Try.func39, Try.ntmps39
  go_wp2_with fail
  refine (c1).calls ?_
  go_wp2_with fail
  go_ret2
  exact ⟨rfl, rfl⟩
set_option maxRecDepth 100000 in
set_option maxHeartbeats 2000000 in
theorem enc_yes (key iv s : ByteArray) (hk : keyOk key) (hi : iv.size = 16) (hs : s.size % 16 = 0) (hm : s.size ≤ 1000000) (X : ByteArray) (hX : X = encC key iv s) : Mak 56 #[.string key, .string iv, .string s] (.tuple #[.string X, .int .i64 0]) := by
  intro w
  have c1 := bad_key key iv s hk 0 (by omega) (by omega)
  have H0 := Lib.hid (Since.refl w)
  have HX := Lib.hid hX
  have HM := Lib.hid hs
  have HI := Lib.hid hi
  have HK := Lib.hid hk
  clear hk hX hs hi
  go_enter Try.func56, Try.ntmps56
  go_wp2_with fail
  refine (c1).calls ?_
  go_wp2_with fail
  go_loopw [1, 9, 10] (fun p o i wr => ∃ (a k : Nat) (V O : ByteArray), i = .int .i64 (a : Int) ∧ p = .string V ∧ o = .string O ∧ Hid (a = 16 * k) ∧ a ≤ s.size ∧ Hid (V = prevE (encK key) iv s.data.toList k) ∧ Hid (O = bs (chainE (encK key) iv s.data.toList k)) ∧ Hid (Since w wr)) (fun _ _ i _ => s.size - (intOf i).toNat)
  case atStart => exact ⟨0, 0, iv, ⟨#[]⟩, rfl, rfl, rfl, Lib.hid rfl, Nat.zero_le _, Lib.hid rfl, Lib.hid rfl, H0⟩
  case round =>
    obtain ⟨a, k, V, O, rfl, rfl, rfl, HA, ha, HV, HO, HS⟩ := hrel
    have hOs : O.size = a := by rw [HO.out, size_bs, chainE_len _ (encK_size key), HA.out]
    by_cases hlt : a < s.size
    · have hd : decide ((a : Int) < (s.size : Int)) = true := decide_eq_true (by omega)
      have hak : a + 16 ≤ s.size := by have := HA.out; have := HM.out; omega
      have he := pc_ext s a k HA.out
      have hp := pc_16 s k (by have := HA.out; omega)
      obtain ⟨P, hP⟩ : ∃ P, P = s.extract a (a + 16) := ⟨_, rfl⟩
      rw [he] at hP
      rw [← hP] at hp he
      have hVs : V.size = 16 := by rw [HV.out]; exact prevE_size _ (encK_size key) _ HI.out _ _
      obtain ⟨Z, hZ⟩ : ∃ Z, Z = Sched.xorS P V := ⟨_, rfl⟩
      have hZs : Z.size = 16 := by rw [hZ]; exact xor16_size _ _ hp hVs
      obtain ⟨Y, hY⟩ : ∃ Y, Y = encK key Z := ⟨_, rfl⟩
      have hYs : Y.size = 16 := by rw [hY]; exact encK_size key Z
      have hYp : Y = prevE (encK key) iv s.data.toList (k + 1) := by rw [hY, hZ, hP, HV.out]; rfl
      have c3 := RefSched.xor_m P V (by omega) (by omega) Z hZ
      have c2 := RefAes.enc_yes key Z HK.out hZs Y hY
      have hsz : ¬ 9223372036854775807 < O.size + Y.size := by omega
      have hO2 : O ++ Y = bs (chainE (encK key) iv s.data.toList (k + 1)) := by
        apply ba_ext
        rw [app_list, HO.out, list_bs, list_bs, chainE, hYp]
      have i1 : (0 : Int) ≤ (a : Int) := by omega
      have i2 : (a : Int) + 16 ≤ (s.size : Int) := by omega
      clear hOs hp hP hY hVs hZ hZs hYs
      have HO2 := Lib.hid hO2
      have HYp := Lib.hid hYp
      clear hO2 hYp
      go_wp2_with fail
      rw [he]
      refine c3.calls HS.out ?_
      intro w1 h1
      have H1 := Lib.hid h1
      clear h1
      go_wp2_with fail
      refine c2.calls H1.out ?_
      intro w2 h2
      have H2 := Lib.hid h2
      clear h2
      go_wp2_with fail
      go_roundw
      case rel => exact ⟨a + 16, k + 1, Y, _, by go_num, rfl, rfl, Lib.hid (by have := HA.out; omega), hak, HYp, HO2, H2⟩
      case measure => simp [intOf]; omega
    · have hd : decide ((a : Int) < (s.size : Int)) = false := decide_eq_false (by omega)
      have e : O = X := by
        rw [HO.out, HX.out, encC, show s.size / 16 = k from by have := HA.out; omega]
      subst e
      clear hOs
      go_wp2_with fail
      go_ret2
      exact ⟨rfl, HS.out⟩
theorem pc_many (f : ByteArray → ByteArray) (hf : ∀ b, (f b).size = 16) (l : List UInt8) (n k : Nat) (h : k < n) : Oct.pc (manyL f l n) 16 k = f (Oct.pc l 16 k) := by
  induction n with
  | zero => omega
  | succ n ih =>
    have hn := manyL_len f hf l n
    rw [manyL_succ]
    by_cases hk : k < n
    · rw [← ih hk]
      unfold Oct.pc
      rw [List.drop_append_of_le_length (by omega), List.take_append_of_le_length (by rw [List.length_drop]; omega)]
    · obtain rfl : k = n := by omega
      unfold Oct.pc
      rw [List.drop_append, List.drop_eq_nil_of_le (by omega), hn, Nat.sub_self, List.nil_append, List.drop_zero]
      have h9 : (f (Oct.pc l 16 k)).data.toList.length = 16 := hf _
      unfold Oct.pc at h9
      rw [List.take_of_length_le (by omega)]
      exact bs_list _
set_option maxRecDepth 100000 in
set_option maxHeartbeats 2000000 in
theorem dec_yes (key iv s : ByteArray) (hk : keyOk key) (hi : iv.size = 16) (hs : s.size % 16 = 0) (hm : s.size ≤ 1000000) (X : ByteArray) (hX : X = decC key iv s) : Mak 39 #[.string key, .string iv, .string s] (.tuple #[.string X, .int .i64 0]) := by
  intro w
  have c1 := bad_key key iv s hk 0 (by omega) (by omega)
  obtain ⟨M, hM⟩ : ∃ M, M = manyK true key s := ⟨_, rfl⟩
  have c4 := RefAes.many_yes key s true hk hs hm M hM
  have hMs : M.size = s.size := by rw [hM, manyK, size_bs, manyL_len _ (both_16 true key)]; omega
  have H0 := Lib.hid (Since.refl w)
  have HX := Lib.hid hX
  have HM := Lib.hid hs
  have HI := Lib.hid hi
  have HMM := Lib.hid hM
  have HMs := Lib.hid hMs
  clear hk hX hs hi hM
  go_enter Try.func39, Try.ntmps39
  go_wp2_with fail
  refine (c1).calls ?_
  go_wp2_with fail
  refine c4.calls H0.out ?_
  intro w1 h1
  have H1 := Lib.hid h1
  clear h1
  go_wp2_with fail
  go_loopw [1, 9, 12] (fun p o i wr => ∃ (a k : Nat) (V O : ByteArray), i = .int .i64 (a : Int) ∧ p = .string V ∧ o = .string O ∧ Hid (a = 16 * k) ∧ a ≤ s.size ∧ Hid (V = prevD iv s.data.toList k) ∧ Hid (O = bs (chainD (decK key) iv s.data.toList k)) ∧ Hid (Since w wr)) (fun _ _ i _ => s.size - (intOf i).toNat)
  case atStart => exact ⟨0, 0, iv, ⟨#[]⟩, rfl, rfl, rfl, Lib.hid rfl, Nat.zero_le _, Lib.hid rfl, Lib.hid rfl, H1⟩
  case round =>
    clear hMs
    obtain ⟨a, k, V, O, rfl, rfl, rfl, HA, ha, HV, HO, HS⟩ := hrel
    have hsl : s.data.toList.length = s.size := rfl
    have hOs : O.size = a := by rw [HO.out, size_bs, chainD_len _ (decK_size key) iv HI.out _ _ (by have := HA.out; omega), HA.out]
    by_cases hlt : a < s.size
    · have hd : decide ((a : Int) < (s.size : Int)) = true := decide_eq_true (by omega)
      have hak : a + 16 ≤ s.size := by have := HA.out; have := HM.out; omega
      have he := pc_ext s a k HA.out
      have hp := pc_16 s k (by have := HA.out; omega)
      have he2 := pc_ext M a k HA.out
      obtain ⟨P, hP⟩ : ∃ P, P = Oct.pc s.data.toList 16 k := ⟨_, rfl⟩
      rw [← hP] at hp he
      obtain ⟨Z, hZ⟩ : ∃ Z, Z = decK key P := ⟨_, rfl⟩
      have hMz : Oct.pc M.data.toList 16 k = Z := by
        rw [HMM.out, manyK, list_bs, if_pos rfl, pc_many _ (decK_size key) _ _ _ (by have := HA.out; omega), hZ, hP]
      rw [hMz] at he2
      have hVs : V.size = 16 := by rw [HV.out]; exact prevD_size _ HI.out _ _ (by have := HA.out; omega)
      have hZs : Z.size = 16 := by rw [hZ]; exact decK_size key P
      obtain ⟨Y, hY⟩ : ∃ Y, Y = Sched.xorS Z V := ⟨_, rfl⟩
      have hYs : Y.size = 16 := by rw [hY]; exact xor16_size _ _ hZs hVs
      have hPp : P = prevD iv s.data.toList (k + 1) := hP
      have c3 := RefSched.xor_m Z V (by omega) (by omega) Y hY
      have hsz : ¬ 9223372036854775807 < O.size + Y.size := by omega
      have hO2 : O ++ Y = bs (chainD (decK key) iv s.data.toList (k + 1)) := by
        apply ba_ext
        rw [app_list, HO.out, list_bs, list_bs, chainD, hY, hZ, hP, HV.out]
      have i1 : (0 : Int) ≤ (a : Int) := by omega
      have i2 : (a : Int) + 16 ≤ (s.size : Int) := by omega
      have i3 : (a : Int) + 16 ≤ (M.size : Int) := by have := HMs.out; omega
      clear hOs hp hP hY hVs hZ hZs hYs hMz hsl
      have HO2 := Lib.hid hO2
      have HPp := Lib.hid hPp
      clear hO2 hPp
      go_wp2_with fail
      rw [he2]
      refine c3.calls HS.out ?_
      intro w2 h2
      have H2 := Lib.hid h2
      clear h2
      go_wp2_with fail
      rw [he]
      go_roundw
      case rel => exact ⟨a + 16, k + 1, P, _, by go_num, rfl, rfl, Lib.hid (by have := HA.out; omega), hak, HPp, HO2, H2⟩
      case measure => simp [intOf]; omega
    · have hd : decide ((a : Int) < (s.size : Int)) = false := decide_eq_false (by omega)
      have e : O = X := by
        rw [HO.out, HX.out, decC, show s.size / 16 = k from by have := HA.out; omega]
      subst e
      clear hOs hsl
      go_wp2_with fail
      go_ret2
      exact ⟨rfl, HS.out⟩
end RefCbc
end Go.Proofs.Ytgbfdgopinnlbaa

/- cbc: what is encrypted, decrypted, is what it was; a chain in two pieces. What the law calls awake. -/
namespace Go.Proofs.Ytgbfdgopinnlbaa
open Go.RowKit
namespace Cbc
open Rnd Aes RefAes RefCbc

theorem xorS_16 (a b : ByteArray) (ha : a.size = 16) (hb : b.size = 16) : Sched.xorS a b = bs (xorL a.data.toList b.data.toList) := by
  unfold Sched.xorS
  rw [ha, hb]
  exact xor_str _ _
theorem xorS_back (a b : ByteArray) (ha : a.size = 16) (hb : b.size = 16) : Sched.xorS (Sched.xorS a b) b = a := by
  rw [xorS_16 a b ha hb, xorS_16 _ b (by rw [size_bs, xorL_len]) hb, list_bs, xor_xor _ _ ha]
  exact bs_list a
theorem pc_chain (f : ByteArray → ByteArray) (hf : ∀ b, (f b).size = 16) (iv : ByteArray) (l : List UInt8) (n k : Nat) (h : k < n) : Oct.pc (chainE f iv l n) 16 k = prevE f iv l (k + 1) := by
  induction n with
  | zero => omega
  | succ n ih =>
    have hn := chainE_len f hf iv l n
    rw [chainE]
    by_cases hk : k < n
    · rw [← ih hk]
      unfold Oct.pc
      rw [List.drop_append_of_le_length (by omega), List.take_append_of_le_length (by rw [List.length_drop]; omega)]
    · obtain rfl : k = n := by omega
      unfold Oct.pc
      rw [List.drop_append, List.drop_eq_nil_of_le (by omega), hn, Nat.sub_self, List.nil_append, List.drop_zero]
      have h9 : (prevE f iv l (k + 1)).data.toList.length = 16 := hf _
      rw [List.take_of_length_le (by omega)]
      exact bs_list _
theorem chainE_len16 (f : ByteArray → ByteArray) (hf : ∀ b, (f b).size = 16) (iv : ByteArray) (l : List UInt8) (k : Nat) : (chainE f iv l k).length = 16 * k := chainE_len f hf iv l k
theorem prevD_chain (f : ByteArray → ByteArray) (hf : ∀ b, (f b).size = 16) (iv : ByteArray) (l : List UInt8) (n k : Nat) (h : k ≤ n) : prevD iv (chainE f iv l n) k = prevE f iv l k := by
  cases k with
  | zero => rfl
  | succ k => exact pc_chain f hf iv l n k (by omega)
theorem take_pc (l : List UInt8) (k : Nat) : l.take (16 * k) ++ (Oct.pc l 16 k).data.toList = l.take (16 * (k + 1)) := by
  unfold Oct.pc
  rw [list_bs, show 16 * (k + 1) = 16 * k + 16 from by omega, List.take_add]
theorem chain_back (f g : ByteArray → ByteArray) (hf : ∀ b, (f b).size = 16) (hg : ∀ b, b.size = 16 → g (f b) = b) (iv : ByteArray) (hiv : iv.size = 16) (l : List UInt8) (n k : Nat) (hl : l.length = 16 * n) (h : k ≤ n) : chainD g iv (chainE f iv l n) k = l.take (16 * k) := by
  induction k with
  | zero => simp [chainD]
  | succ k ih =>
    rw [chainD, ih (by omega), pc_chain f hf iv l n k (by omega), prevD_chain f hf iv l n k (by omega), prevE,
      hg _ (xor16_size _ _ (pc_size l k (by omega)) (prevE_size f hf iv hiv l k)), xorS_back _ _ (pc_size l k (by omega)) (prevE_size f hf iv hiv l k), take_pc]
theorem dec_encC (key iv s : ByteArray) (hiv : iv.size = 16) (hs : s.size % 16 = 0) : decC key iv (encC key iv s) = s := by
  have hl : s.data.toList.length = s.size := rfl
  apply ba_ext
  unfold decC
  rw [list_bs]
  have hz : (encC key iv s).size / 16 = s.size / 16 := by unfold encC; rw [size_bs, chainE_len _ (encK_size key)]; omega
  rw [hz]
  unfold encC
  rw [list_bs, chain_back (encK key) (decK key) (encK_size key) (fun b hb => decK_encK key b hb) iv hiv _ _ _ (by omega) (Nat.le_refl _), List.take_of_length_le (by omega)]
theorem pc_app_l (l m : List UInt8) (k n : Nat) (hl : l.length = 16 * n) (h : k < n) : Oct.pc (l ++ m) 16 k = Oct.pc l 16 k := by
  unfold Oct.pc
  rw [List.drop_append_of_le_length (by omega), List.take_append_of_le_length (by rw [List.length_drop]; omega)]
theorem pc_app_r (l m : List UInt8) (k n : Nat) (hl : l.length = 16 * n) : Oct.pc (l ++ m) 16 (n + k) = Oct.pc m 16 k := by
  unfold Oct.pc
  rw [List.drop_append, List.drop_eq_nil_of_le (by omega), List.nil_append, show 16 * (n + k) - l.length = 16 * k from by omega]
theorem prev_app_l (f : ByteArray → ByteArray) (iv : ByteArray) (l m : List UInt8) (n k : Nat) (hl : l.length = 16 * n) (h : k ≤ n) : prevE f iv (l ++ m) k = prevE f iv l k := by
  induction k with
  | zero => rfl
  | succ k ih => rw [prevE, prevE, ih (by omega), pc_app_l l m k n hl (by omega)]
theorem chain_app_l (f : ByteArray → ByteArray) (iv : ByteArray) (l m : List UInt8) (n k : Nat) (hl : l.length = 16 * n) (h : k ≤ n) : chainE f iv (l ++ m) k = chainE f iv l k := by
  induction k with
  | zero => rfl
  | succ k ih => rw [chainE, chainE, ih (by omega), prev_app_l f iv l m n (k + 1) hl h]
theorem prev_app (f : ByteArray → ByteArray) (iv : ByteArray) (l m : List UInt8) (n k : Nat) (hl : l.length = 16 * n) : prevE f iv (l ++ m) (n + k) = prevE f (prevE f iv l n) m k := by
  induction k with
  | zero => exact prev_app_l f iv l m n n hl (Nat.le_refl _)
  | succ k ih => rw [← Nat.add_assoc, prevE, prevE, ih, pc_app_r l m k n hl]
theorem chain_app (f : ByteArray → ByteArray) (iv : ByteArray) (l m : List UInt8) (n k : Nat) (hl : l.length = 16 * n) : chainE f iv (l ++ m) (n + k) = chainE f iv l n ++ chainE f (prevE f iv l n) m k := by
  induction k with
  | zero => rw [Nat.add_zero, chain_app_l f iv l m n n hl (Nat.le_refl _), chainE, List.append_nil]
  | succ k ih => rw [← Nat.add_assoc, chainE, ih, chainE, List.append_assoc, Nat.add_assoc, prev_app f iv l m n (k + 1) hl]
/-- the last block of a chain -/
theorem last_chain (f : ByteArray → ByteArray) (hf : ∀ b, (f b).size = 16) (iv : ByteArray) (l : List UInt8) (n : Nat) (X : ByteArray) (hX : X = bs (chainE f iv l (n + 1))) : X.extract (X.size - 16) X.size = prevE f iv l (n + 1) := by
  have hs : X.size = 16 * (n + 1) := by rw [hX, size_bs, chainE_len f hf]
  apply ba_ext
  rw [ext_list, hs, hX, list_bs]
  have h := congrArg (fun b : ByteArray => b.data.toList) (pc_chain f hf iv l (n + 1) n (by omega))
  unfold Oct.pc at h
  simp only [list_bs] at h
  rw [← h, show 16 * (n + 1) - 16 = 16 * n from by omega, show 16 * (n + 1) - 16 * n = 16 from by omega]
def zero16 : ByteArray := ⟨#[0, 0, 0, 0, 0, 0, 0, 0, 0, 0, 0, 0, 0, 0, 0, 0]⟩
def aKey : ByteArray := ⟨#[48, 49, 50, 51, 52, 53, 54, 55, 56, 57, 97, 98, 99, 100, 101, 102]⟩
def aText : ByteArray := ⟨#[102, 101, 100, 99, 98, 97, 57, 56, 55, 54, 53, 52, 51, 50, 49, 48]⟩
theorem pc_whole (s : ByteArray) (h : s.size = 16) : Oct.pc s.data.toList 16 0 = s := by
  unfold Oct.pc
  have h9 : s.data.toList.length = 16 := h
  rw [Nat.mul_zero, List.drop_zero, List.take_of_length_le (by omega)]
  exact bs_list s
theorem enc_zero : encC aKey zero16 aText = encK aKey aText := by
  apply ba_ext
  unfold encC
  rw [list_bs, show aText.size / 16 = 1 from rfl, chainE, chainE, List.nil_append, prevE, prevE, pc_whole aText rfl, show Sched.xorS aText zero16 = aText from by decide +kernel]
end Cbc
end Go.Proofs.Ytgbfdgopinnlbaa
