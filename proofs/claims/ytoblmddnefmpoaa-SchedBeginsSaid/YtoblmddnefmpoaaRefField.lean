/- The walks of the reference of package field. -/
import Derived.Test.YtoblmddnefmpoaaRows
import Derived.WalkKit
import Derived.WalkSpells
import Derived.WalkLawsBesides
import Derived.Lib.Hide
import Derived.Test.YtoblmddnefmpoaaField
namespace Go.Proofs.Ytoblmddnefmpoaa
open Go.RowKit
namespace RefField
open Go.Proofs.Ytoblmddnefmpoaa.Field
attribute [local irreducible] Gf.mul Gf.inv Gf.pow Gf.logN Gf.logB Gf.xt Gf.cl Gf.red Gf.rmul

theorem ofInt64 (a : Nat) (ha : a < 9223372036854775808) : (BitVec.ofInt 64 (a : Int)).toNat = a := by
  rw [BitVec.ofInt_natCast, BitVec.toNat_ofNat]; exact Nat.mod_eq_of_lt (by omega)
theorem xor64 (a b : Nat) (ha : a < 65536) (hb : b < 65536) : bits .xor .i64 (a : Int) (b : Int) = ((a ^^^ b : Nat) : Int) := by
  have hx : a ^^^ b < 2 ^ 16 := Nat.xor_lt_two_pow (by omega) (by omega)
  show IntKind.i64.wrap ((BitVec.ofInt 64 (a : Int) ^^^ BitVec.ofInt 64 (b : Int)).toNat : Int) = _
  rw [BitVec.toNat_xor, ofInt64 a (by omega), ofInt64 b (by omega), IntKind.wrap_i64]
  omega

theorem bit64 (b k : Nat) : ((((b : Nat) : Int) / 2 ^ k).tmod 2 == 1) = b.testBit k := by
  have h : ((b : Int) / 2 ^ k).tmod 2 = ((b / 2 ^ k % 2 : Nat) : Int) := by
    rw [Int.tmod_eq_emod_of_nonneg (Int.ediv_nonneg (by omega) (Int.le_of_lt (Int.pow_pos (by decide))))]; simp
  rw [h, Gf.testBit_div, Bool.eq_iff_iff]
  simp only [beq_iff_eq, decide_eq_true_eq]
  omega
theorem shl64 (a k : Nat) (ha : a < 512) (hk : k < 8) : wrap64 ((a : Int) * 2 ^ k) = ((a <<< k : Nat) : Int) ∧ a <<< k < 65536 := by
  have hp : 2 ^ k ≤ 2 ^ 7 := Nat.pow_le_pow_right (by decide) (by omega)
  have hm : a * 2 ^ k ≤ 511 * 2 ^ 7 := Nat.mul_le_mul (by omega) hp
  have he : (a : Int) * 2 ^ k = ((a * 2 ^ k : Nat) : Int) := by simp
  rw [Nat.shiftLeft_eq, he, IntWalk.wrap64_in _ (by omega)]
  exact ⟨rfl, by omega⟩

set_option maxHeartbeats 400000 in
theorem mul_any (a b : Nat) (w : World) (h1 : a ≤ 255) (g1 : b ≤ 255) :
    Calls Try.prog 78 #[.int .u8 (a : Int), .int .u8 (b : Int)] w fun e w' => e = .returned (.int .u8 ((Gf.rmul a b : Nat) : Int)) ∧ w = w' := by
  have hf : Gf.rmul a b = Gf.red (Gf.cl a b 8) 7 % 256 := by with_unfolding_all rfl
  rw [hf]; clear hf
  go_enter Try.func78, Try.ntmps78
  go_wp2
  go_loop [5, 6] (fun p i => ∃ k : Nat, k ≤ 8 ∧ i = .int .i64 k ∧ p = .int .i64 ((Gf.cl a b k : Nat) : Int)) (fun _ i => 8 - (intOf i).toNat)
  case atStart => exact ⟨0, by omega, rfl, by unfold Gf.cl; rfl⟩
  case round =>
    obtain ⟨k, hk, rfl, rfl⟩ := hrel
    have hl := Gf.cl_lt a b k (by omega) hk
    by_cases hlt : k < 8
    · obtain ⟨s1, s2⟩ := shl64 a k (by omega) hlt
      have hx := xor64 (Gf.cl a b k) (a <<< k) hl s2
      have hb := bit64 b k
      have hs : Gf.cl a b (k + 1) = if b.testBit k then Gf.cl a b k ^^^ (a <<< k) else Gf.cl a b k := by with_unfolding_all rfl
      cases hc : b.testBit k
      all_goals
        rw [hc] at hb hs
        have HS := Lib.hid hs; have HX := Lib.hid hx; have S1 := Lib.hid s1; clear hs hx hc s1 s2
        go_wp2_with fail
        go_round
        case rel => exact ⟨k + 1, by omega, by go_num, by rw [HS.out]; first | rfl | (rw [S1.out, HX.out]; rfl)⟩
        case measure => simp [intOf]; omega
    · obtain rfl : k = 8 := by omega
      go_wp2_with fail
      go_loop [5, 7] (fun p i => ∃ j : Nat, j ≤ 7 ∧ i = .int .i64 (14 - (j : Int)) ∧ p = .int .i64 ((Gf.red (Gf.cl a b 8) j : Nat) : Int)) (fun _ i => (intOf i).toNat)
      case atStart => exact ⟨0, by omega, rfl, by unfold Gf.red; rfl⟩
      case round =>
        obtain ⟨j, hj, rfl, rfl⟩ := hrel
        generalize hcd : Gf.cl a b 8 = c at *
        have HC := Lib.hid hcd; clear hcd
        have hr := Gf.red_lt c j hl hj
        by_cases hlt : j < 7
        · obtain ⟨s1, s2⟩ := shl64 283 (14 - j - 8) (by omega) (by omega)
          have hx := xor64 (Gf.red c j) (283 <<< (14 - j - 8)) hr s2
          have hb := bit64 (Gf.red c j) (14 - j)
          have hs : Gf.red c (j + 1) = if (Gf.red c j).testBit (14 - j) then Gf.red c j ^^^ (283 <<< (14 - j - 8)) else Gf.red c j := by
            rw [show 14 - j - 8 = 6 - j from by omega]; with_unfolding_all rfl
          cases hc : (Gf.red c j).testBit (14 - j)
          all_goals
            rw [hc] at hb hs
            have HS := Lib.hid hs; have HX := Lib.hid hx; have S1 := Lib.hid s1; clear hs hx hc s1 s2
            go_wp2_with fail
            go_round
            case rel => exact ⟨j + 1, by omega, by congr 1; omega, by rw [HS.out]; first | rfl | (rw [show wrap64 (283 * 2 ^ (14 - j - 8)) = ((283 <<< (14 - j - 8) : Nat) : Int) from S1.out, HX.out]; rfl)⟩
            case measure => simp [intOf]; omega
        · obtain rfl : j = 7 := by omega
          go_wp2_with fail
          go_ret
          have hm : ((Gf.red c 7 : Nat) : Int) % 256 = ((Gf.red c 7 % 256 : Nat) : Int) := by simp
          exact ⟨ret_int (by rw [HC.out]; try exact hm), rfl⟩

set_option maxHeartbeats 400000 in
theorem mul_ret (a b : Nat) (w : World) (h1 : a ≤ 255) (g1 : b ≤ 255) :
    Calls Try.prog 78 #[.int .u8 (a : Int), .int .u8 (b : Int)] w fun e w' => e = .returned (.int .u8 ((Gf.mul a b : Nat) : Int)) ∧ w = w' := by
  rw [← Gf.rmul_eq a b (by omega) (by omega)]; exact mul_any a b w h1 g1

set_option maxRecDepth 100000 in
set_option maxHeartbeats 400000 in
theorem pow_ret (a : Nat) (n : Int) (w : World) (h1 : a ≤ 255) (hn : n ≤ 9223372036854775807) :
    Calls Try.prog 70 #[.int .u8 (a : Int), .int .i64 n] w fun e w' => e = .returned (.int .u8 ((Gf.pow a n.toNat : Nat) : Int)) ∧ w = w' := by
  by_cases h : n < 1
  · have hz : Gf.pow a n.toNat = 1 := by rw [show n.toNat = 0 from by omega]; exact Gf.pow_zero a
    have HZ := Lib.hid hz; clear hz
    go_enter Try.func70, Try.ntmps70
    go_wp2_with fail
    go_ret
    rw [HZ.out]; exact ⟨rfl, rfl⟩
  · by_cases ha : a = 0
    · subst ha
      have hz : Gf.pow 0 n.toNat = 0 := Gf.pow_of_zero n.toNat (by omega) (by omega)
      have HZ := Lib.hid hz; clear hz
      go_enter Try.func70, Try.ntmps70
      go_wp2_with fail
      go_ret
      rw [HZ.out]; exact ⟨rfl, rfl⟩
    · have hb : ((a : Int) == 0) = false := by simp; omega
      have hz : Gf.pow a n.toNat = Gf.ipw a (n.toNat % 255) := Gf.pow_mod a n.toNat (by omega) (by omega) (by omega)
      have HZ := Lib.hid hz; clear hz
      have hm : n % 255 = ((n.toNat % 255 : Nat) : Int) := by omega
      have hq : n.toNat % 255 < 255 := Nat.mod_lt _ (by decide)
      generalize hqq : n.toNat % 255 = q at *
      have HQ := Lib.hid hqq; clear hqq
      have HA := Lib.hid ha; clear ha
      go_enter Try.func70, Try.ntmps70
      go_wp2_with fail
      go_loop [5, 6] (fun p i => ∃ k : Nat, k ≤ q ∧ i = .int .i64 (k : Int) ∧ p = .int .u8 ((Gf.ipw a k : Nat) : Int)) (fun _ i => 255 - (intOf i).toNat)
      case atStart => exact ⟨0, by omega, rfl, rfl⟩
      case round =>
        obtain ⟨k, hk, rfl, rfl⟩ := hrel
        have hp := Gf.ipw_lt a k
        by_cases hlt : k < q
        · have hs : Gf.ipw a (k + 1) = Gf.mul (Gf.ipw a k) a := rfl
          have HS := Lib.hid hs; clear hs
          go_wp2_with fail
          refine (mul_ret (Gf.ipw a k) a _ (by omega) h1).mono ?_
          rintro e w' ⟨rfl, rfl⟩
          go_wp2_with fail
          go_round
          case rel => exact ⟨k + 1, by omega, by go_num, by rw [HS.out]⟩
          case measure => simp [intOf]; omega
        · obtain rfl : k = q := by omega
          go_wp2_with fail
          go_ret
          rw [HZ.out]; exact ⟨rfl, rfl⟩

end RefField
end Go.Proofs.Ytoblmddnefmpoaa
