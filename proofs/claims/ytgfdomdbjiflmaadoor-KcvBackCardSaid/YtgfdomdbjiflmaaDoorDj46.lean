/- Joined texts. -/
-- PACK: YtgfdomdbjiflmaaDoorCmac3 YtgfdomdbjiflmaaDoorRefCmac2
import Derived.Test.YtgfdomdbjiflmaaDoorDj45
import Derived.Test.YtgfdomdbjiflmaaDoorDj43
import Derived.Test.YtgfdomdbjiflmaaDoorDj19

/- Package cmac: tags. -/
namespace Go.Proofs.YtgfdomdbjiflmaaDoor
open Go.RowKit
namespace Cmac
open Rnd Aes

set_option maxRecDepth 100000 in
theorem tag_no (key s : ByteArray) (hm : key.size ≤ 1000000) (hk : ¬ keyOk key) : Ret 60 #[.string key, .string s] (.tuple #[.string ⟨#[]⟩, .int .i64 2]) := by
  intro w
  have c1 := new_no key hm hk
  clear hk
  go_enter Tryd.func60, Tryd.ntmps60
  go_wp2_with fail
  refine (c1).calls ?_
  go_wp2_with fail
  go_ret2
  exact ⟨rfl, rfl⟩
theorem cut_pc (s : ByteArray) (a k : Nat) (ha : a = 16 * k) (h : a < s.size ∨ s.size = 0 ∧ k = 0) (hm : s.size ≤ 9223372036854775807) (P : ByteArray) (hP : P = Oct.pc s.data.toList 16 k) : Ret 61 #[.string s, .int .i64 (a : Int), .int .i64 16] (.string P) := by
  intro w
  rcases h with h | ⟨h, hk⟩
  · have h1 := Oct.cut_yes s a 16 w hm (by decide) h (by decide)
    rw [ha] at h1
    rw [hP, ha]; exact h1
  · have h1 := Oct.cut_no s (a : Int) 16 w hm (by omega)
    have hl : s.data.toList = [] := List.eq_nil_of_length_eq_zero h
    rw [hP, Oct.pc, hl]
    have e : bs (List.take 16 (List.drop (16 * k) [])) = ⟨#[]⟩ := by rw [List.drop_nil, List.take_nil]; rfl
    rw [e]; exact h1
theorem blkN_pos (n : Nat) : 1 ≤ blkN n := by unfold blkN; split <;> omega
theorem blk_in (s : Nat) (k : Nat) (h : k < blkN s) : 16 * k < s ∨ s = 0 ∧ k = 0 := by
  unfold blkN at h
  split at h <;> omega
theorem blk_full (s k : Nat) (h : k + 1 < blkN s) : 16 * k + 16 ≤ s := by
  unfold blkN at h
  split at h <;> omega
theorem pc_le (l : List UInt8) (k : Nat) : (Oct.pc l 16 k).size ≤ 16 := by
  unfold Oct.pc
  rw [size_bs, List.length_take]; omega
/-- the state behind k blocks -/
def stK (key s : ByteArray) (k : Nat) : ByteArray := if k = blkN s.size then tagK key s else tagS key s.data.toList k
theorem stK_size (key s : ByteArray) (k : Nat) : (stK key s k).size = 16 := by
  unfold stK
  split
  · exact tagK_size _ _
  · exact tagS_size _ _ _
set_option maxRecDepth 100000 in
set_option maxHeartbeats 2000000 in
theorem tag_yes (key s : ByteArray) (hk : keyOk key) (hm : s.size ≤ 1000000) (X : ByteArray) (hX : X = tagK key s) : Mak 60 #[.string key, .string s] (.tuple #[.string X, .int .i64 0]) := by
  intro w
  have H0 := Lib.hid (Since.refl w)
  have c1 := new_key key hk
  obtain ⟨A, hA⟩ : ∃ A, A = sub1 key := ⟨_, rfl⟩
  obtain ⟨B, hB⟩ : ∃ B, B = sub2 key := ⟨_, rfl⟩
  obtain ⟨Z, hZ⟩ : ∃ Z, Z = zero := ⟨_, rfl⟩
  have c2 := fun c w' (h : CipK w' c key) => subkeys_calls c key w' h A B hA hB
  have c3 := zeros_m
  rw [← hZ] at c3
  obtain ⟨n, hn⟩ : ∃ n, n = blkN s.size := ⟨_, rfl⟩
  have c4 := blocks_nat s.size (by omega) (n : Int) (by rw [hn])
  have hn1 : 1 ≤ n := by rw [hn]; exact blkN_pos _
  have hn9 : n ≤ 1000001 := by rw [hn, blkN]; split <;> omega
  have HN := Lib.hid hn
  have HX := Lib.hid hX
  have HA := Lib.hid hA
  have HB := Lib.hid hB
  have HZ := Lib.hid hZ
  clear hk hX hA hB hZ hn
  have H_c2 := Lib.hid c2
  clear c2
  go_enter Tryd.func60, Tryd.ntmps60
  go_wp2_with fail
  refine c1 _ _ H0.out _ ?_
  intro c w1 hC _ h1
  have HC := Lib.hid hC
  have H1 := Lib.hid h1
  clear hC h1
  go_wp2_with fail
  refine (H_c2.out c w1 HC.out).mono ?_
  rintro e w2 ⟨rfl, h2⟩
  have H2 := Lib.hid (Since.step H1.out h2)
  have HC2 := Lib.hid (HC.out.since h2)
  clear h2 HC
  have HW := Lib.hid (Since.refl w2)
  go_wp2_with fail
  refine (c3).calls HW.out ?_
  intro w3 h3
  have H3 := Lib.hid h3
  clear h3
  go_wp2_with fail
  refine (c4).calls ?_
  go_wp2_with fail
  go_loopw [10, 36] (fun v i wr => ∃ (k : Nat) (V : ByteArray), k ≤ n ∧ i = .int .i64 (k : Int) ∧ v = .string V ∧ Hid (V = stK key s k) ∧ Hid (Since w2 wr)) (fun _ i _ => n - (intOf i).toNat)
  case atStart => exact ⟨0, Z, by omega, rfl, rfl, Lib.hid (by rw [stK, if_neg (by rw [← HN.out]; omega), HZ.out]; rfl), H3⟩
  case round =>
    obtain ⟨k, V, hkn, rfl, rfl, HV, HS⟩ := hrel
    by_cases hlt : k < n
    · have hd : decide ((k : Int) < (n : Int)) = true := decide_eq_true (by omega)
      obtain ⟨a, ha⟩ : ∃ a, a = 16 * k := ⟨_, rfl⟩
      have e1 : (k : Int) * 16 = (a : Int) := by omega
      obtain ⟨P, hP⟩ : ∃ P, P = Oct.pc s.data.toList 16 k := ⟨_, rfl⟩
      have c5 := cut_pc s a k ha (by have h := blk_in s.size k (by rw [← HN.out]; exact hlt); omega) (by omega) P hP
      have hP16 : P.size ≤ 16 := by rw [hP]; exact pc_le _ _
      have hVs : V.size = 16 := by rw [HV.out]; exact stK_size _ _ _
      have hV2 : V = tagS key s.data.toList k := by rw [HV.out, stK, if_neg (by rw [← HN.out]; omega)]
      by_cases hl : k + 1 = n
      · have t1 : ((k : Int) == (n : Int) - 1) = true := by rw [beq_iff_eq]; omega
        obtain ⟨L, hL⟩ : ∃ L, L = lastB key P := ⟨_, rfl⟩
        have c6 := last_mak key P A B L hP16 HA.out HB.out hL
        have hLs : L.size = 16 := by rw [hL]; exact lastB_size key P hP16
        obtain ⟨Q, hQ⟩ : ∃ Q, Q = Sched.xorS V L := ⟨_, rfl⟩
        have c7 := Sched.xor_m V L (by omega) (by omega) Q hQ
        have hQs : Q.size = 16 := by rw [hQ]; exact Cbc.xor16_size _ _ hVs hLs
        obtain ⟨Y, hY⟩ : ∃ Y, Y = encK key Q := ⟨_, rfl⟩
        have hYs : Y = stK key s (k + 1) := by
          rw [stK, if_pos (by rw [← HN.out]; exact hl), tagK, ← HN.out, show n - 1 = k from by omega, ← hP, ← hL, ← hV2, ← hQ, hY]
        have c8 := fun w' (h : Since w2 w') => cenc_yes c key Q hQs Y hY w' (HC2.out.since h)
        clear hP hP16 hVs hV2 hl hL hLs hQ hQs hY ha
        have HYs := Lib.hid hYs
        clear hYs
        have H_c8 := Lib.hid c8
        clear c8
        go_wp2_with fail
        refine (c5).calls ?_
        go_wp2_with fail
        refine c6.calls HS.out ?_
        intro w4 h4
        have H4 := Lib.hid h4
        clear h4
        go_wp2_with fail
        refine c7.calls H4.out ?_
        intro w5 h5
        have H5 := Lib.hid h5
        clear h5
        go_wp2_with fail
        refine (H_c8.out _ H5.out).mono ?_
        rintro e w6 ⟨rfl, h6⟩
        have H6 := Lib.hid (Since.step H5.out h6)
        clear h6
        go_wp2_with fail
        go_roundw
        case rel => exact ⟨k + 1, Y, by omega, by go_num, rfl, HYs, H6⟩
        case measure => simp [intOf]; omega
      · have t1 : ((k : Int) == (n : Int) - 1) = false := by rw [beq_eq_false_iff_ne]; omega
        have hPs : P.size = 16 := by
          have := blk_full s.size k (by rw [← HN.out]; omega)
          rw [hP]; exact Cbc.pc_size _ _ (by show 16 * k + 16 ≤ s.size; omega)
        obtain ⟨Q, hQ⟩ : ∃ Q, Q = Sched.xorS V P := ⟨_, rfl⟩
        have c7 := Sched.xor_m V P (by omega) (by omega) Q hQ
        have hQs : Q.size = 16 := by rw [hQ]; exact Cbc.xor16_size _ _ hVs hPs
        obtain ⟨Y, hY⟩ : ∃ Y, Y = encK key Q := ⟨_, rfl⟩
        have hYs : Y = stK key s (k + 1) := by
          rw [stK, if_neg (by rw [← HN.out]; exact hl), tagS, ← hP, ← hV2, ← hQ, hY]
        have c8 := fun w' (h : Since w2 w') => cenc_yes c key Q hQs Y hY w' (HC2.out.since h)
        clear hP hP16 hVs hV2 hl hPs hQ hQs hY ha
        have HYs := Lib.hid hYs
        clear hYs
        have H_c8 := Lib.hid c8
        clear c8
        go_wp2_with fail
        refine (c5).calls ?_
        go_wp2_with fail
        refine c7.calls HS.out ?_
        intro w4 h4
        have H4 := Lib.hid h4
        clear h4
        go_wp2_with fail
        refine (H_c8.out _ H4.out).mono ?_
        rintro e w6 ⟨rfl, h6⟩
        have H6 := Lib.hid (Since.step H4.out h6)
        clear h6
        go_wp2_with fail
        go_roundw
        case rel => exact ⟨k + 1, Y, by omega, by go_num, rfl, HYs, H6⟩
        case measure => simp [intOf]; omega
    · have hd : decide ((k : Int) < (n : Int)) = false := decide_eq_false (by omega)
      have e : V = X := by rw [HV.out, HX.out, stK, if_pos (by rw [← HN.out]; omega)]
      subst e
      go_wp2_with fail
      go_ret2
      exact ⟨rfl, Since.step H2.out HS.out⟩
end Cmac
end Go.Proofs.YtgfdomdbjiflmaaDoor

/- The reference of cmac: subkeys, tags. -/
namespace Go.Proofs.YtgfdomdbjiflmaaDoor
open Go.RowKit
namespace RefCmac
open Rnd Aes Cmac

theorem drop_pc (s R : ByteArray) (k : Nat) (hR : R.data.toList = s.data.toList.drop (16 * k)) : R.extract 0 16 = Oct.pc s.data.toList 16 k := by
  apply ba_ext
  rw [ext_list, hR, Oct.pc, list_bs, List.drop_zero]
theorem drop_next (s R : ByteArray) (k : Nat) (hR : R.data.toList = s.data.toList.drop (16 * k)) : (R.extract 16 R.size).data.toList = s.data.toList.drop (16 * (k + 1)) := by
  have h9 : R.data.toList.length = R.size := rfl
  rw [ext_list, List.take_of_length_le (by rw [List.length_drop]; omega), hR, List.drop_drop]
  congr 1
theorem rest_pc (s R : ByteArray) (k : Nat) (hR : R.data.toList = s.data.toList.drop (16 * k)) (h : R.size ≤ 16) : R = Oct.pc s.data.toList 16 k := by
  have h9 : R.data.toList.length = R.size := rfl
  apply ba_ext
  rw [Oct.pc, list_bs, ← hR, List.take_of_length_le (by omega)]
end RefCmac
end Go.Proofs.YtgfdomdbjiflmaaDoor
