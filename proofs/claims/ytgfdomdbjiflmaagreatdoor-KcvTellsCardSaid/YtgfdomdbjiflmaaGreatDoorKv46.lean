/- Joined texts. -/
-- PACK: YtgfdomdbjiflmaaGreatDoorCmac3 YtgfdomdbjiflmaaGreatDoorRefCmac2
import Derived.Test.YtgfdomdbjiflmaaGreatDoorKv45
import Derived.Test.YtgfdomdbjiflmaaGreatDoorKv43
import Derived.Test.YtgfdomdbjiflmaaGreatDoorKv19

/- Package cmac: tags. -/
namespace Go.Proofs.YtgfdomdbjiflmaaGreatDoor
open Go.RowKit
namespace Cmac
open Rnd Aes

set_option maxRecDepth 100000 in
theorem tag_no (key s : ByteArray) (hm : key.size ≤ 1000000) (hk : ¬ keyOk key) : Ret 36 #[.string key, .string s] (.tuple #[.string ⟨#[]⟩, .int .i64 2]) := by
  intro w
  have c1 := new_no key hm hk
  clear hk
  go_enter Tryz.func36, Tryz.ntmps36
  go_wp2_with fail
  refine (c1).calls ?_
  go_wp2_with fail
  go_ret2
  exact ⟨rfl, rfl⟩
theorem cut_pc (s : ByteArray) (a k : Nat) (ha : a = 16 * k) (h : a < s.size ∨ s.size = 0 ∧ k = 0) (hm : s.size ≤ 9223372036854775807) (P : ByteArray) (hP : P = Oct.pc s.data.toList 16 k) : Ret 37 #[.string s, .int .i64 (a : Int), .int .i64 16] (.string P) := by
  intro w
  rcases h with h | ⟨h, hk⟩
  · have h1 := Oct.cut_yes s a 16 w hm (by decide) h (by decide)
    rw [ha] at h1
    rw [hP, ha]; exact h1
  · have h1 := Oct.cut_no s (a : Int) 16 w hm (by omega)
    have hl : s.data.toList = [] := List.eq_nil_of_length_eq_zero h
    rw [hP, Oct.pc, hl]
    have e : bs (List.take 16 (List.drop (16 * k) [])) = ⟨#[]⟩ := by rw [List.drop_nil, List.take_nil]; rfl
    rw [e]; exact h1
theorem blkN_pos (n : Nat) : 1 ≤ blkN n := by unfold blkN; split <;> omega
theorem blk_in (s : Nat) (k : Nat) (h : k < blkN s) : 16 * k < s ∨ s = 0 ∧ k = 0 := by
  unfold blkN at h
  split at h <;> omega
theorem blk_full (s k : Nat) (h : k + 1 < blkN s) : 16 * k + 16 ≤ s := by
  unfold blkN at h
  split at h <;> omega
theorem pc_le (l : List UInt8) (k : Nat) : (Oct.pc l 16 k).size ≤ 16 := by
  unfold Oct.pc
  rw [size_bs, List.length_take]; omega
/-- the state behind k blocks -/
def stK (key s : ByteArray) (k : Nat) : ByteArray := if k = blkN s.size then tagK key s else tagS key s.data.toList k
theorem stK_size (key s : ByteArray) (k : Nat) : (stK key s k).size = 16 := by
  unfold stK
  split
  · exact tagK_size _ _
  · exact tagS_size _ _ _
set_option maxRecDepth 100000 in
set_option maxHeartbeats 2000000 in
theorem tag_yes (key s : ByteArray) (hk : keyOk key) (hm : s.size ≤ 1000000) (X : ByteArray) (hX : X = tagK key s) : Mak 36 #[.string key, .string s] (.tuple #[.string X, .int .i64 0]) := by
  intro w
  have H0 := Lib.hid (Since.refl w)
  have c1 := new_key key hk
  obtain ⟨A, hA⟩ : ∃ A, A = sub1 key := ⟨_, rfl⟩
  obtain ⟨B, hB⟩ : ∃ B, B = sub2 key := ⟨_, rfl⟩
  obtain ⟨Z, hZ⟩ : ∃ Z, Z = zero := ⟨_, rfl⟩
  have c2 := fun c w' (h : CipK w' c key) => subkeys_calls c key w' h A B hA hB
  have c3 := zeros_m
  rw [← hZ] at c3
  obtain ⟨n, hn⟩ : ∃ n, n = blkN s.size := ⟨_, rfl⟩
  have c4 := blocks_nat s.size (by omega) (n : Int) (by rw [hn])
  have hn1 : 1 ≤ n := by rw [hn]; exact blkN_pos _
  have hn9 : n ≤ 1000001 := by rw [hn, blkN]; split <;> omega
  have HN := Lib.hid hn
  have HX := Lib.hid hX
  have HA := Lib.hid hA
  have HB := Lib.hid hB
  have HZ := Lib.hid hZ
  clear hk hX hA hB hZ hn
  have H_c2 := Lib.hid c2
  clear c2
  go_enter Tryz.func36, Tryz.ntmps36
  go_wp2_with fail
  refine c1 _ _ H0.out _ ?_
  intro c w1 hC _ h1
  have HC := Lib.hid hC
  have H1 := Lib.hid h1
  clear hC h1
  go_wp2_with fail
  refine (H_c2.out c w1 HC.out).mono ?_
  rintro e w2 ⟨rfl, h2⟩
  have H2 := Lib.hid (Since.step H1.out h2)
  have HC2 := Lib.hid (HC.out.since h2)
  clear h2 HC
  have HW := Lib.hid (Since.refl w2)
  go_wp2_with fail
  refine (c3).calls HW.out ?_
  intro w3 h3
  have H3 := Lib.hid h3
  clear h3
  go_wp2_with fail
  refine (c4).calls ?_
  go_wp2_with fail
  go_loopw [10, 36] (fun v i wr => ∃ (k : Nat) (V : ByteArray), k ≤ n ∧ i = .int .i64 (k : Int) ∧ v = .string V ∧ Hid (V = stK key s k) ∧ Hid (Since w2 wr)) (fun _ i _ => n - (intOf i).toNat)
  case atStart => exact ⟨0, Z, by omega, rfl, rfl, Lib.hid (by rw [stK, if_neg (by rw [← HN.out]; omega), HZ.out]; rfl), H3⟩
  case round =>
    obtain ⟨k, V, hkn, rfl, rfl, HV, HS⟩ := hrel
    by_cases hlt : k < n
    · have hd : decide ((k : Int) < (n : Int)) = true := decide_eq_true (by omega)
      obtain ⟨a, ha⟩ : ∃ a, a = 16 * k := ⟨_, rfl⟩
      have e1 : (k : Int) * 16 = (a : Int) := by omega
      obtain ⟨P, hP⟩ : ∃ P, P = Oct.pc s.data.toList 16 k := ⟨_, rfl⟩
      have c5 := cut_pc s a k ha (by have h := blk_in s.size k (by rw [← HN.out]; exact hlt); omega) (by omega) P hP
      have hP16 : P.size ≤ 16 := by rw [hP]; exact pc_le _ _
      have hVs : V.size = 16 := by rw [HV.out]; exact stK_size _ _ _
      have hV2 : V = tagS key s.data.toList k := by rw [HV.out, stK, if_neg (by rw [← HN.out]; omega)]
      by_cases hl : k + 1 = n
      · have t1 : ((k : Int) == (n : Int) - 1) = true := by rw [beq_iff_eq]; omega
        obtain ⟨L, hL⟩ : ∃ L, L = lastB key P := ⟨_, rfl⟩
        have c6 := last_mak key P A B L hP16 HA.out HB.out hL
        have hLs : L.size = 16 := by rw [hL]; exact lastB_size key P hP16
        obtain ⟨Q, hQ⟩ : ∃ Q, Q = Sched.xorS V L := ⟨_, rfl⟩
        have c7 := Sched.xor_m V L (by omega) (by omega) Q hQ
        have hQs : Q.size = 16 := by rw [hQ]; exact Cbc.xor16_size _ _ hVs hLs
        obtain ⟨Y, hY⟩ : ∃ Y, Y = encK key Q := ⟨_, rfl⟩
        have hYs : Y = stK key s (k + 1) := by
          rw [stK, if_pos (by rw [← HN.out]; exact hl), tagK, ← HN.out, show n - 1 = k from by omega, ← hP, ← hL, ← hV2, ← hQ, hY]
        have c8 := fun w' (h : Since w2 w') => cenc_yes c key Q hQs Y hY w' (HC2.out.since h)
        clear hP hP16 hVs hV2 hl hL hLs hQ hQs hY ha
        have HYs := Lib.hid hYs
        clear hYs
        have H_c8 := Lib.hid c8
        clear c8
        go_wp2_with fail
        refine (c5).calls ?_
        go_wp2_with fail
        refine c6.calls HS.out ?_
        intro w4 h4
        have H4 := Lib.hid h4
        clear h4
        go_wp2_with fail
        refine c7.calls H4.out ?_
        intro w5 h5
        have H5 := Lib.hid h5
        clear h5
        go_wp2_with fail
        refine (H_c8.out _ H5.out).mono ?_
        rintro e w6 ⟨rfl, h6⟩
        have H6 := Lib.hid (Since.step H5.out h6)
        clear h6
        go_wp2_with fail
        go_roundw
        case rel => exact ⟨k + 1, Y, by omega, by go_num, rfl, HYs, H6⟩
        case measure => simp [intOf]; omega
      · have t1 : ((k : Int) == (n : Int) - 1) = false := by rw [beq_eq_false_iff_ne]; omega
        have hPs : P.size = 16 := by
          have := blk_full s.size k (by rw [← HN.out]; omega)
          rw [hP]; exact Cbc.pc_size _ _ (by show 16 * k + 16 ≤ s.size; omega)
        obtain ⟨Q, hQ⟩ : ∃ Q, Q = Sched.xorS V P := ⟨_, rfl⟩
        have c7 := Sched.xor_m V P (by omega) (by omega) Q hQ
        have hQs : Q.size = 16 := by rw [hQ]; exact Cbc.xor16_size _ _ hVs hPs
        obtain ⟨Y, hY⟩ : ∃ Y, Y = encK key Q := ⟨_, rfl⟩
        have hYs : Y = stK key s (k + 1) := by
          rw [stK, if_neg (by rw [← HN.out]; exact hl), tagS, ← hP, ← hV2, ← hQ, hY]
        have c8 := fun w' (h : Since w2 w') => cenc_yes c key Q hQs Y hY w' (HC2.out.since h)
        clear hP hP16 hVs hV2 hl hPs hQ hQs hY ha
        have HYs := Lib.hid hYs
        clear hYs
        have H_c8 := Lib.hid c8
        clear c8
        go_wp2_with fail
        refine (c5).calls ?_
        go_wp2_with fail
        refine c7.calls HS.out ?_
        intro w4 h4
        have H4 := Lib.hid h4
        clear h4
        go_wp2_with fail
        refine (H_c8.out _ H4.out).mono ?_
        rintro e w6 ⟨rfl, h6⟩
        have H6 := Lib.hid (Since.step H4.out h6)
        clear h6
        go_wp2_with fail
        go_roundw
        case rel => exact ⟨k + 1, Y, by omega, by go_num, rfl, HYs, H6⟩
        case measure => simp [intOf]; omega
    · have hd : decide ((k : Int) < (n : Int)) = false := decide_eq_false (by omega)
      have e : V = X := by rw [HV.out, HX.out, stK, if_pos (by rw [← HN.out]; omega)]
      subst e
      go_wp2_with fail
      go_ret2
      exact ⟨rfl, Since.step H2.out HS.out⟩
end Cmac
end Go.Proofs.YtgfdomdbjiflmaaGreatDoor

/- The reference of cmac: subkeys, tags. -/
namespace Go.Proofs.YtgfdomdbjiflmaaGreatDoor
open Go.RowKit
namespace RefCmac
open Rnd Aes Cmac

theorem zeros_m : Mak 39 #[.int .i64 16] (.string zero) := RefOct.zeros_yes 16 (by decide) (by decide)
set_option maxRecDepth 100000 in
theorem subkeys_yes (key : ByteArray) (hk : keyOk key) (A B : ByteArray) (hA : A = sub1 key) (hB : B = sub2 key) : Mak 69 #[.string key] (.tuple #[.string A, .string B, .int .i64 0]) := by
  intro w
  have H0 := Lib.hid (Since.refl w)
  obtain ⟨Z, hZ⟩ : ∃ Z, Z = zero := ⟨_, rfl⟩
  obtain ⟨Y, hY⟩ : ∃ Y, Y = encK key Z := ⟨_, rfl⟩
  have c1 := zeros_m
  rw [← hZ] at c1
  have c2 := RefAes.enc_yes key Z hk (by rw [hZ, zero_size]) Y hY
  have c3 := RefCmac.double_yes Y (by rw [hY, encK_size]) A (by rw [hA, sub1, hY, hZ])
  have c4 := RefCmac.double_yes A (by rw [hA, sub1_size]) B (by rw [hB, sub2, hA])
  clear hk hZ hY hA hB
  go_enter Tryz.func69, Tryz.ntmps69
  go_wp2_with fail
  refine c1.calls H0.out ?_
  intro w1 h1
  have H1 := Lib.hid h1
  clear h1
  go_wp2_with fail
  refine c2.calls H1.out ?_
  intro w2 h2
  have H2 := Lib.hid h2
  clear h2
  go_wp2_with fail
  refine c3.calls H2.out ?_
  intro w3 h3
  have H3 := Lib.hid h3
  clear h3
  go_wp2_with fail
  refine c3.calls H3.out ?_
  intro w4 h4
  have H4 := Lib.hid h4
  clear h4
  go_wp2_with fail
  refine c4.calls H4.out ?_
  intro w5 h5
  have H5 := Lib.hid h5
  clear h5
  go_wp2_with fail
  go_ret3
  exact ⟨rfl, H5.out⟩
set_option maxRecDepth 100000 in
theorem subkeys_no (key : ByteArray) (hm : key.size ≤ 1000000) (hk : ¬ keyOk key) : Mak 69 #[.string key] (.tuple #[.string ⟨#[]⟩, .string ⟨#[]⟩, .int .i64 2]) := by
  intro w
  have H0 := Lib.hid (Since.refl w)
  obtain ⟨Z, hZ⟩ : ∃ Z, Z = zero := ⟨_, rfl⟩
  have c1 := zeros_m
  rw [← hZ] at c1
  have c2 := RefAes.enc_nokey key Z hm hk
  clear hk hZ
  go_enter Tryz.func69, Tryz.ntmps69
  go_wp2_with fail
  refine c1.calls H0.out ?_
  intro w1 h1
  have H1 := Lib.hid h1
  clear h1
  go_wp2_with fail
  refine (c2).calls ?_
  go_wp2_with fail
  go_ret3
  exact ⟨rfl, H1.out⟩
set_option maxRecDepth 100000 in
theorem blocks_neg (n : Int) (h : n < 0) : Ret 50 #[.int .i64 n] (.int .i64 0) := by
  intro w
  go_enter Tryz.func50, Tryz.ntmps50
  go_wp2_with fail
  go_ret
  exact ⟨rfl, rfl⟩
set_option maxRecDepth 100000 in
theorem blocks_nat (n : Nat) (hm : n ≤ 9223372036854775807) (x : Int) (hx : x = ((blkN n : Nat) : Int)) : Ret 50 #[.int .i64 (n : Int)] (.int .i64 x) := by
  intro w
  by_cases h0 : n = 0
  · subst h0
    have hx1 : x = 1 := hx
    subst hx1
    clear hx
    go_enter Tryz.func50, Tryz.ntmps50
    go_wp2_with fail
    go_ret
    exact ⟨rfl, rfl⟩
  · have hx1 : x = ((n : Int) - 1) / 16 + 1 := by rw [hx, blkN, if_neg h0]; omega
    subst hx1
    have t1 : decide ((n : Int) < 0) = false := decide_eq_false (by omega)
    have t2 : ((n : Int) == 0) = false := by rw [beq_eq_false_iff_ne]; omega
    have i1 : (0 : Int) ≤ (n : Int) - 1 := by omega
    clear h0 hx
    go_enter Tryz.func50, Tryz.ntmps50
    go_wp2_with fail
    go_ret
    exact ⟨rfl, rfl⟩
set_option maxRecDepth 100000 in
theorem tag_no (key s : ByteArray) (hm : key.size ≤ 1000000) (hk : ¬ keyOk key) : Mak 42 #[.string key, .string s] (.tuple #[.string ⟨#[]⟩, .int .i64 2]) := by
  intro w
  have H0 := Lib.hid (Since.refl w)
  have c1 := RefCmac.subkeys_no key hm hk
  clear hk
  go_enter Tryz.func42, Tryz.ntmps42
  go_wp2_with fail
  refine c1.calls H0.out ?_
  intro w1 h1
  have H1 := Lib.hid h1
  clear h1
  go_wp2_with fail
  go_ret2
  exact ⟨rfl, H1.out⟩
theorem pad_ref (b J P : ByteArray) (hb : b.size ≤ 15) (hJ : J = b ++ ⟨#[128]⟩) (hP : P = padB b) : Mak 71 #[.string J, .int .i64 16] (.string P) := by
  have h9 : b.data.toList.length = b.size := rfl
  have hJs : J.size = b.size + 1 := by
    show J.data.toList.length = _
    rw [hJ, app_list, List.length_append]; rfl
  have h := RefOct.pad_yes J 16 (by omega) (by decide) (by decide) (15 - b.size) (by rw [hJs]; omega) (fun k hk => by rw [hJs]; omega) (by omega)
  have e : bs (J.data.toList ++ List.replicate (15 - b.size) 0) = P := by
    rw [hP, hJ, padB, app_list, List.append_assoc]; rfl
  rw [e] at h
  exact h
theorem drop_pc (s R : ByteArray) (k : Nat) (hR : R.data.toList = s.data.toList.drop (16 * k)) : R.extract 0 16 = Oct.pc s.data.toList 16 k := by
  apply ba_ext
  rw [ext_list, hR, Oct.pc, list_bs, List.drop_zero]
theorem drop_next (s R : ByteArray) (k : Nat) (hR : R.data.toList = s.data.toList.drop (16 * k)) : (R.extract 16 R.size).data.toList = s.data.toList.drop (16 * (k + 1)) := by
  have h9 : R.data.toList.length = R.size := rfl
  rw [ext_list, List.take_of_length_le (by rw [List.length_drop]; omega), hR, List.drop_drop]
  congr 1
theorem rest_pc (s R : ByteArray) (k : Nat) (hR : R.data.toList = s.data.toList.drop (16 * k)) (h : R.size ≤ 16) : R = Oct.pc s.data.toList 16 k := by
  have h9 : R.data.toList.length = R.size := rfl
  apply ba_ext
  rw [Oct.pc, list_bs, ← hR, List.take_of_length_le (by omega)]
set_option maxRecDepth 100000 in
set_option maxHeartbeats 2000000 in
theorem tag_yes (key s : ByteArray) (hk : keyOk key) (hm : s.size ≤ 1000000) (X : ByteArray) (hX : X = tagK key s) : Mak 42 #[.string key, .string s] (.tuple #[.string X, .int .i64 0]) := by
  intro w
  have H0 := Lib.hid (Since.refl w)
  obtain ⟨A, hA⟩ : ∃ A, A = sub1 key := ⟨_, rfl⟩
  obtain ⟨B, hB⟩ : ∃ B, B = sub2 key := ⟨_, rfl⟩
  obtain ⟨Z, hZ⟩ : ∃ Z, Z = zero := ⟨_, rfl⟩
  have c1 := RefCmac.subkeys_yes key hk A B hA hB
  have c3 := zeros_m
  rw [← hZ] at c3
  have HX := Lib.hid hX
  have HA := Lib.hid hA
  have HB := Lib.hid hB
  have HZ := Lib.hid hZ
  have HK := Lib.hid hk
  clear hk hX hA hB hZ
  go_enter Tryz.func42, Tryz.ntmps42
  go_wp2_with fail
  refine c1.calls H0.out ?_
  intro w1 h1
  have H1 := Lib.hid h1
  clear h1
  go_wp2_with fail
  refine c3.calls H1.out ?_
  intro w2 h2
  have H2 := Lib.hid h2
  clear h2
  go_wp2_with fail
  go_loopw [1, 9] (fun t v wr => ∃ (k : Nat) (R V : ByteArray), t = .string R ∧ v = .string V ∧ Hid (R.data.toList = s.data.toList.drop (16 * k)) ∧ R.size ≤ 1000000 ∧ Hid (16 * k < s.size ∨ k = 0) ∧ Hid (V = tagS key s.data.toList k) ∧ Hid (Since w wr)) (fun t _ _ => match t with | .string r => r.size | _ => 0)
  case atStart => exact ⟨0, s, Z, rfl, rfl, Lib.hid rfl, hm, Lib.hid (Or.inr rfl), Lib.hid (by rw [HZ.out]; rfl), H2⟩
  case round =>
    obtain ⟨k, R, V, rfl, rfl, HR, hR9, HK0, HV, HS⟩ := hrel
    have hVs : V.size = 16 := by rw [HV.out]; exact tagS_size _ _ _
    have hRs : R.size = s.size - 16 * k := by
      show R.data.toList.length = _
      rw [HR.out, List.length_drop]; rfl
    by_cases hlt : 16 < R.size
    · have hd : decide ((16 : Int) < (R.size : Int)) = true := decide_eq_true (by omega)
      obtain ⟨P, hP⟩ : ∃ P, P = Oct.pc s.data.toList 16 k := ⟨_, rfl⟩
      have he := drop_pc s R k HR.out
      rw [← hP] at he
      have hn := drop_next s R k HR.out
      have hPs : P.size = 16 := by rw [hP]; exact Cbc.pc_size _ _ (by show 16 * k + 16 ≤ s.size; omega)
      obtain ⟨Q, hQ⟩ : ∃ Q, Q = Sched.xorS V P := ⟨_, rfl⟩
      have c7 := RefSched.xor_m V P (by omega) (by omega) Q hQ
      have hQs : Q.size = 16 := by rw [hQ]; exact Cbc.xor16_size _ _ hVs hPs
      obtain ⟨Y, hY⟩ : ∃ Y, Y = encK key Q := ⟨_, rfl⟩
      have hYs : Y = tagS key s.data.toList (k + 1) := by rw [tagS, ← hP, ← HV.out, ← hQ, hY]
      have c8 := RefAes.enc_yes key Q HK.out hQs Y hY
      have hk1 : 16 * (k + 1) < s.size ∨ k + 1 = 0 := by omega
      have i1 : (16 : Int) ≤ (R.size : Int) := by omega
      have hz : (R.extract 16 R.size).size < R.size := by
        show (R.extract 16 R.size).data.toList.length < _
        rw [hn, List.length_drop]
        have : s.data.toList.length = s.size := rfl
        omega
      clear hP hPs hVs hRs hQ hQs hY
      have HYs := Lib.hid hYs
      clear hYs
      have Hn := Lib.hid hn
      clear hn
      have Hk1 := Lib.hid hk1
      clear hk1
      have Hz := Lib.hid hz
      clear hz
      go_wp2_with fail
      refine c7.calls HS.out ?_
      intro w3 h3
      have H3 := Lib.hid h3
      clear h3
      go_wp2_with fail
      refine c8.calls H3.out ?_
      intro w4 h4
      have H4 := Lib.hid h4
      clear h4
      go_wp2_with fail
      go_roundw
      case rel => exact ⟨k + 1, _, Y, rfl, rfl, Hn, by have := Hz.out; omega, Hk1, HYs, H4⟩
      case measure => exact Hz.out
    · have hd : decide ((16 : Int) < (R.size : Int)) = false := decide_eq_false (by omega)
      obtain ⟨P, hP⟩ : ∃ P, P = Oct.pc s.data.toList 16 k := ⟨_, rfl⟩
      have hRP := rest_pc s R k HR.out (by omega)
      rw [← hP] at hRP
      have hkn : blkN s.size - 1 = k := by
        rcases HK0.out with h | h
        · unfold blkN; split <;> omega
        · subst h; unfold blkN; split <;> omega
      obtain ⟨L, hL⟩ : ∃ L, L = lastB key R := ⟨_, rfl⟩
      have hLs : L.size = 16 := by rw [hL]; exact lastB_size key R (by omega)
      obtain ⟨Q, hQ⟩ : ∃ Q, Q = Sched.xorS V L := ⟨_, rfl⟩
      have c7 := RefSched.xor_m V L (by omega) (by omega) Q hQ
      have hQs : Q.size = 16 := by rw [hQ]; exact Cbc.xor16_size _ _ hVs hLs
      have c8 := RefAes.enc_yes key Q HK.out hQs X (by rw [HX.out, tagK, hkn, ← hP, ← hRP, ← hL, ← HV.out, ← hQ])
      by_cases h16 : R.size = 16
      · have t1 : ((R.size : Int) == 16) = true := by rw [beq_iff_eq]; omega
        have hAs : A.size = 16 := by rw [HA.out, sub1_size]
        have c5 := RefSched.xor_m R A (by omega) (by omega) L (by rw [hL, lastB, if_pos h16, HA.out])
        clear hP hRP hkn hL hLs hQ hQs hVs hRs h16 hAs hlt
        go_wp2_with fail
        refine c5.calls HS.out ?_
        intro w3 h3
        have H3 := Lib.hid h3
        clear h3
        go_wp2_with fail
        refine c7.calls H3.out ?_
        intro w4 h4
        have H4 := Lib.hid h4
        clear h4
        go_wp2_with fail
        refine c8.calls H4.out ?_
        intro w5 h5
        have H5 := Lib.hid h5
        clear h5
        go_wp2_with fail
        go_ret2
        exact ⟨rfl, H5.out⟩
      · have t1 : ((R.size : Int) == 16) = false := by rw [beq_eq_false_iff_ne]; omega
        have hBs : B.size = 16 := by rw [HB.out, sub2_size]
        obtain ⟨J, hJ⟩ : ∃ J, J = R ++ ⟨#[128]⟩ := ⟨_, rfl⟩
        obtain ⟨D, hD⟩ : ∃ D, D = padB R := ⟨_, rfl⟩
        have hDs : D.size = 16 := by rw [hD]; exact padB_size R (by omega)
        have c4 := pad_ref R J D (by omega) hJ hD
        have c5 := RefSched.xor_m D B (by omega) (by omega) L (by rw [hL, lastB, if_neg h16, HB.out, hD])
        have hsz : ¬ 9223372036854775807 < R.size + 1 := by omega
        clear hP hRP hkn hL hLs hQ hQs hVs hRs h16 hBs hD hDs hlt
        have HJ := Lib.hid hJ
        clear hJ
        go_wp2_with fail
        rw [← HJ.out]
        refine c4.calls HS.out ?_
        intro w3 h3
        have H3 := Lib.hid h3
        clear h3
        go_wp2_with fail
        refine c5.calls H3.out ?_
        intro w4 h4
        have H4 := Lib.hid h4
        clear h4
        go_wp2_with fail
        refine c7.calls H4.out ?_
        intro w5 h5
        have H5 := Lib.hid h5
        clear h5
        go_wp2_with fail
        refine c8.calls H5.out ?_
        intro w6 h6
        have H6 := Lib.hid h6
        clear h6
        go_wp2_with fail
        go_ret2
        exact ⟨rfl, H6.out⟩
end RefCmac
end Go.Proofs.YtgfdomdbjiflmaaGreatDoor
