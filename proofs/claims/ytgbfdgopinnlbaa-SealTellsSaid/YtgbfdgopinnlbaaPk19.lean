/- Joined texts. -/
-- PACK: YtgbfdgopinnlbaaRefOct2
import Derived.Test.YtgbfdgopinnlbaaPk4
import Derived.Test.YtgbfdgopinnlbaaPk2
import Derived.Test.YtgbfdgopinnlbaaPk14
import Derived.Deep.QuietTactic
import Derived.BigQuiet

/- The reference's Xor and Join. -/
namespace Go.Proofs.Ytgbfdgopinnlbaa
open Go.RowKit
namespace RefOct

theorem since_drewN {W0 w : World} (h : Since W0 w) (n : Nat) : Since W0 (w.drewN n) := h.step ⟨rfl, rfl, rfl, Nat.le_refl _, fun _ _ => rfl⟩

theorem xor_bit (X Y P j : Nat) (hP : P = 2 ^ j) : (X ^^^ Y) % (2 * P) = (X ^^^ Y) % P + if X / P % 2 = Y / P % 2 then 0 else P := by
  subst hP
  rw [Nat.mul_comm, ← Nat.pow_succ, Nat.mod_pow_succ]
  have h : (X ^^^ Y) / 2 ^ j % 2 = if X / 2 ^ j % 2 = Y / 2 ^ j % 2 then 0 else 1 := by
    have h1 := Nat.testBit_xor X Y j
    rw [Nat.testBit_eq_decide_div_mod_eq, Nat.testBit_eq_decide_div_mod_eq, Nat.testBit_eq_decide_div_mod_eq] at h1
    have a1 : X / 2 ^ j % 2 = 0 ∨ X / 2 ^ j % 2 = 1 := by omega
    have a2 : Y / 2 ^ j % 2 = 0 ∨ Y / 2 ^ j % 2 = 1 := by omega
    have a3 : (X ^^^ Y) / 2 ^ j % 2 = 0 ∨ (X ^^^ Y) / 2 ^ j % 2 = 1 := by omega
    rcases a1 with a1 | a1 <;> rcases a2 with a2 | a2 <;> rcases a3 with a3 | a3 <;> simp [a1, a2, a3] at h1 ⊢
  rw [h]; split <;> simp

set_option maxRecDepth 100000 in
set_option maxHeartbeats 1000000 in
theorem xor_any (s t : ByteArray) (n : Nat) (w : World) (hn : n = min s.size t.size) (hm : s.size ≤ 140737488355328) (_hm2 : t.size ≤ 140737488355328) :
    Calls Try.prog 62 #[.string s, .string t] w fun e w' => e = .returned (.string (strOfNums ((List.range n).map (Oct.xorV s.data.toList t.data.toList)))) ∧ Below w.heap.size w w' := by
  have hns : n ≤ s.size := by omega
  have hnt : n ≤ t.size := by omega
  have HN := Lib.hid hn
  clear hn
  go_enter Try.func62, Try.ntmps62
  go_wp2
  go_loopw [5, 6] (fun o i wr => ∃ k : Nat, k ≤ n ∧ i = .int .i64 (k : Int) ∧ o = .string (strOfNums ((List.range k).map (Oct.xorV s.data.toList t.data.toList))) ∧ Hid (Since w wr)) (fun _ i _ => n - (intOf i).toNat)
  case atStart => exact ⟨0, by omega, rfl, rfl, Lib.hid (Since.refl w)⟩
  case round =>
    obtain ⟨k, hk, rfl, rfl, HS⟩ := hrel
    by_cases hks : k < s.size
    · by_cases hkt : k < t.size
      · have hlt : k < n := by rw [HN.out]; omega
        have hs1 := s[k].toNat_lt
        have ht1 := t[k].toNat_lt
        go_wp2_with fail
        go_quiet (fail)
        go_wp2_with fail
        obtain ⟨X, hX⟩ : ∃ X : Nat, X = s[k].toNat := ⟨_, rfl⟩
        obtain ⟨Y, hY⟩ : ∃ Y : Nat, Y = t[k].toNat := ⟨_, rfl⟩
        have hxv : Oct.xorV s.data.toList t.data.toList k = ((X ^^^ Y : Nat) : Int) := by
          unfold Oct.xorV; rw [Oct.getD_at s k hks, Oct.getD_at t k hkt, hX, hY]
        rw [← hX, ← hY]
        rw [← hX] at hs1
        rw [← hY] at ht1
        have HXV := Lib.hid hxv
        clear hxv hX hY
        go_loopw [9, 10] (fun m p wi => ∃ (j P M : Nat), j ≤ 8 ∧ Hid (P = 2 ^ j) ∧ 1 ≤ P ∧ P ≤ 256 ∧ Hid (M = (X ^^^ Y) % P) ∧ M ≤ 255 ∧ p = .int .i64 (P : Int) ∧ m = .int .i64 (M : Int) ∧ Hid (Since w wi)) (fun _ p _ => 256 - (intOf p).toNat)
        case atStart => exact ⟨0, 1, 0, by omega, Lib.hid rfl, by omega, by omega, Lib.hid (by rw [Nat.mod_one]), by omega, rfl, rfl, Lib.hid (since_drewN HS.out _)⟩
        case round =>
          obtain ⟨j, P, M, hj, HP, hP1, hP2, HM, hM, rfl, rfl, HSI⟩ := hrel
          by_cases hj8 : j < 8
          · have hP3 : P ≤ 128 := by rw [HP.out]; exact Nat.le_trans (Nat.pow_le_pow_right (by decide) (show j ≤ 7 by omega)) (by decide)
            have hM2 : M < P := by rw [HM.out]; exact Nat.mod_lt _ hP1
            have hb := xor_bit X Y P j HP.out
            obtain ⟨A, hA⟩ : ∃ A : Nat, A = X / P := ⟨_, rfl⟩
            obtain ⟨B, hB⟩ : ∃ B : Nat, B = Y / P := ⟨_, rfl⟩
            rw [← hA, ← hB] at hb
            have hA2 : A ≤ 255 := by rw [hA]; exact Nat.le_trans (Nat.div_le_self _ _) (by omega)
            have hB2 : B ≤ 255 := by rw [hB]; exact Nat.le_trans (Nat.div_le_self _ _) (by omega)
            have qA : (X : Int) / (P : Int) = (A : Int) := by rw [hA]; simp
            have qB : (Y : Int) / (P : Int) = (B : Int) := by rw [hB]; simp
            clear hA hB
            have hj2 : 2 * P = 2 ^ (j + 1) := by rw [HP.out, Nat.pow_succ]; omega
            have HJ := Lib.hid hj2
            clear hj2
            by_cases hbit : A % 2 = B % 2
            · rw [if_pos hbit] at hb
              have HB := Lib.hid hb
              have hbb : ((A : Int) % 2 != (B : Int) % 2) = false := by simp; omega
              have HBIT := Lib.hid hbit
              clear hb hbit
              go_wp2_with fail
              go_quiet (fail)
              go_wp2_with fail
              go_roundw
              case rel => exact ⟨j + 1, 2 * P, M, by omega, HJ, by omega, by omega, Lib.hid (by rw [HB.out, Nat.add_zero]; exact HM.out), by omega, by go_num, rfl, Lib.hid (since_drewN HSI.out _)⟩
              case measure => simp [intOf]; omega
            · rw [if_neg hbit] at hb
              have HB := Lib.hid hb
              have hbb : ((A : Int) % 2 != (B : Int) % 2) = true := by simp; omega
              have HBIT := Lib.hid hbit
              clear hb hbit
              go_wp2_with fail
              go_quiet (fail)
              go_wp2_with fail
              go_roundw
              case rel => exact ⟨j + 1, 2 * P, M + P, by omega, HJ, by omega, by omega, Lib.hid (by rw [HB.out, HM.out]), by omega, by go_num, by go_num, Lib.hid (since_drewN HSI.out _)⟩
              case measure => simp [intOf]; omega
          · have hP256 : P = 256 := by rw [HP.out, show j = 8 from by omega]
            subst hP256
            have hMe : M = X ^^^ Y := by rw [HM.out]; exact Nat.mod_eq_of_lt (Nat.xor_lt_two_pow (n := 8) hs1 ht1)
            have HME := Lib.hid hMe
            clear hMe
            have g := run_convert_bytes_arg (P := Try.prog) (wr.alloc (.cells #[.int .u8 (M : Int)] 5)) 60 5 Try.underlying60 Try.underlying5 wr.heap.size 0 1 1 [(M : Int)] rfl (fun i hi => by
              obtain rfl : i = 0 := by omega
              rw [Nat.zero_add, (World.rowIs_alloc wr #[.int .u8 (M : Int)] 5 (fun _ => .int .u8 (M : Int)) (fun j hj => by
                obtain rfl : j = 0 := by simp at hj; omega
                rfl)).cell (Nat.lt_succ_self 0)]; rfl) 9 Try.underlying9
            have hsz : ¬ 9223372036854775807 < (strOfNums ((List.range k).map (Oct.xorV s.data.toList t.data.toList))).size + (strOfNums [(M : Int)]).size := by
              rw [strOfNums_size, strOfNums_size]; simp; omega
            go_wp2_with fail
            go_roundw
            case rel =>
              refine ⟨k + 1, by omega, by go_num, ?_, Lib.hid (HSI.out.alloc _)⟩
              refine congrArg Value.string (ba_ext ?_)
              rw [app_list, nums_list, nums_list, nums_list, List.range_succ, List.map_append, List.map_append]
              simp only [List.map_cons, List.map_nil]
              rw [HXV.out, HME.out]
            case measure => simp [intOf]; omega
      · have hkn : k = n := by rw [HN.out]; have := HN.out; omega
        have HK := Lib.hid hkn
        clear hkn
        go_wp2_with fail
        go_ret
        rw [← HK.out]
        exact ⟨rfl, HS.out⟩
    · have hkn : k = n := by have := HN.out; omega
      have HK := Lib.hid hkn
      clear hkn
      go_wp2_with fail
      go_ret
      rw [← HK.out]
      exact ⟨rfl, HS.out⟩

end RefOct
end Go.Proofs.Ytgbfdgopinnlbaa
