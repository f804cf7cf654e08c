/- Joined texts. -/
-- PACK: YtgfdomdbjiflmaaGreatDoorField YtgfdomdbjiflmaaGreatDoorRefField
import Derived.Test.YtgfdomdbjiflmaaGreatDoorRows
import Derived.WalkKit
import Derived.WalkSpells
import Derived.WalkLawsBesides
import Derived.Lib.Hide
import Derived.Test.YtgfdomdbjiflmaaGreatDoorKv1

/- The walks of package field. -/
namespace Go.Proofs.YtgfdomdbjiflmaaGreatDoor
open Go.RowKit
namespace Field

theorem ret_int {k : IntKind} {a b : Int} (h : a = b) : Ending.returned (.int k a) = .returned (.int k b) := by rw [h]

/-- a byte fact for every byte, out of the list of all -/
theorem byte_all {p : Int → Bool} (h : (List.range 256).all (fun n => p (n : Int)) = true) (a : Int) (h0 : 0 ≤ a) (h1 : a ≤ 255) : p a = true := by
  obtain ⟨n, rfl⟩ := Int.eq_ofNat_of_zero_le h0
  exact List.all_eq_true.1 h n (List.mem_range.2 (by omega))

theorem twice_hi (a : Int) (h0 : 0 ≤ a) (h1 : a ≤ 255) (h : (bits .and .u8 a 128 != 0) = true) : bits .xor .u8 (a * 2 % 256) 27 = ((Gf.xt a.toNat : Nat) : Int) := by
  have := byte_all (p := fun a => !(bits .and .u8 a 128 != 0) || bits .xor .u8 (a * 2 % 256) 27 == ((Gf.xt a.toNat : Nat) : Int)) (by decide +kernel) a h0 h1
  simpa [h] using this
theorem twice_lo (a : Int) (h0 : 0 ≤ a) (h1 : a ≤ 255) (h : (bits .and .u8 a 128 != 0) = false) : a * 2 % 256 = ((Gf.xt a.toNat : Nat) : Int) := by
  have := byte_all (p := fun a => (bits .and .u8 a 128 != 0) || a * 2 % 256 == ((Gf.xt a.toNat : Nat) : Int)) (by decide +kernel) a h0 h1
  simpa [h] using this

set_option maxRecDepth 100000 in
set_option maxHeartbeats 400000 in
theorem twice_any (a : Int) (w : World) (h0 : 0 ≤ a) (h1 : a ≤ 255) :
    Calls Tryz.prog 119 #[.int .u8 a] w fun e w' => e = .returned (.int .u8 ((Gf.xt a.toNat : Nat) : Int)) ∧ w = w' := by
  go_enter Tryz.func119, Tryz.ntmps119
  go_wp2
  · go_ret
    exact ⟨ret_int (twice_hi a h0 h1 (by assumption)), rfl⟩
  · go_ret
    exact ⟨ret_int (twice_lo a h0 h1 (by assumption)), rfl⟩

set_option maxRecDepth 100000 in
set_option maxHeartbeats 400000 in
theorem add_any (a b : Int) (w : World) (h0 : 0 ≤ a) (h1 : a ≤ 255) (g0 : 0 ≤ b) (g1 : b ≤ 255) :
    Calls Tryz.prog 173 #[.int .u8 a, .int .u8 b] w fun e w' => e = .returned (.int .u8 ((a.toNat ^^^ b.toNat : Nat) : Int)) ∧ w = w' := by
  go_enter Tryz.func173, Tryz.ntmps173
  go_wp2
  go_ret
  exact ⟨ret_int (u8_xor a b h0 (by omega) g0 (by omega)), rfl⟩

theorem bit_any (b : Int) (h0 : 0 ≤ b) (h1 : b ≤ 255) (k : Nat) (hk : k < 8) : (bits .and .u8 (b / 2 ^ k) 1 != 0) = b.toNat.testBit k := by
  have := byte_all (p := fun b => (List.range 8).all fun k => (bits .and .u8 (b / 2 ^ k) 1 != 0) == b.toNat.testBit k) (by decide +kernel) b h0 h1
  simpa using List.all_eq_true.1 this k (List.mem_range.2 hk)

set_option maxRecDepth 100000 in
set_option maxHeartbeats 400000 in
theorem mul_any (a b : Int) (w : World) (h0 : 0 ≤ a) (h1 : a ≤ 255) (g0 : 0 ≤ b) (g1 : b ≤ 255) :
    Calls Tryz.prog 152 #[.int .u8 a, .int .u8 b] w fun e w' => e = .returned (.int .u8 ((Gf.mul a.toNat b.toNat : Nat) : Int)) ∧ w = w' := by
  go_enter Tryz.func152, Tryz.ntmps152
  go_wp2
  go_loop [0, 5, 7] (fun x s i => ∃ k : Nat, k ≤ 8 ∧ i = .int .i64 k ∧ s = .int .u8 (((Gf.st a.toNat b.toNat k).1 : Nat) : Int) ∧ x = .int .u8 (((Gf.st a.toNat b.toNat k).2 : Nat) : Int)) (fun _ _ i => 8 - (intOf i).toNat)
  case atStart => exact ⟨0, by omega, rfl, rfl, by simp [Gf.st]; omega⟩
  case round =>
    obtain ⟨k, hk, rfl, rfl, rfl⟩ := hrel
    have hl := Gf.st_lt a.toNat b.toNat k (by omega)
    by_cases hlt : k < 8
    · have hb := bit_any b g0 g1 k hlt
      have e1 : Gf.st a.toNat b.toNat (k + 1) = ((if b.toNat.testBit k then (Gf.st a.toNat b.toNat k).1 ^^^ (Gf.st a.toNat b.toNat k).2 else (Gf.st a.toNat b.toNat k).1), Gf.xt (Gf.st a.toNat b.toNat k).2) := rfl
      cases hc : b.toNat.testBit k
      all_goals
        rw [hc] at hb e1
        have E1 := Lib.hid e1; clear e1 hc
        generalize Gf.st a.toNat b.toNat k = t at *
        go_wp2_with (first | (go_at_call 173; refine (add_any _ _ _ (by omega) (by omega) (by omega) (by omega)).mono ?_; rintro e w' ⟨rfl, rfl⟩) | (go_at_call 119; refine (twice_any _ _ (by omega) (by omega)).mono ?_; rintro e w' ⟨rfl, rfl⟩))
        go_round
        case rel => exact ⟨k + 1, by omega, by go_num, by rw [E1.out]; try simp, by rw [E1.out]; try simp⟩
        case measure => simp [intOf]; omega
    · go_wp2_with fail
      go_ret
      obtain rfl : k = 8 := by omega
      exact ⟨rfl, rfl⟩

set_option maxRecDepth 100000 in
set_option maxHeartbeats 400000 in
theorem pow_any (a n : Int) (w : World) (h0 : 0 ≤ a) (h1 : a ≤ 255) (hn : n ≤ 9223372036854775807) :
    Calls Tryz.prog 172 #[.int .u8 a, .int .i64 n] w fun e w' => e = .returned (.int .u8 ((Gf.pow a.toNat n.toNat : Nat) : Int)) ∧ w = w' := by
  go_enter Tryz.func172, Tryz.ntmps172
  go_wp2
  go_loop [0, 1, 5] (fun x m p => ∃ (f p' x' : Nat) (y : Int), x' < 256 ∧ p' < 256 ∧ y ≤ 9223372036854775807 ∧ y.toNat < 2 ^ f ∧ Gf.powF f p' x' y.toNat = Gf.pow a.toNat n.toNat ∧ x = .int .u8 (x' : Int) ∧ m = .int .i64 y ∧ p = .int .u8 (p' : Int)) (fun _ m _ => (intOf m).toNat)
  case atStart => exact ⟨64, 1, a.toNat, n, by omega, by omega, hn, by omega, rfl, by rw [Int.toNat_of_nonneg h0], rfl, rfl⟩
  case round =>
    obtain ⟨f, p', x', y, hx, hp, hy, hf, hv, rfl, rfl, rfl⟩ := hrel
    have HV := Lib.hid hv; clear hv
    by_cases hlt : 0 < y
    · obtain ⟨f, rfl⟩ : ∃ g, f = g + 1 := by cases f with
        | zero => simp at hf; omega
        | succ g => exact ⟨g, rfl⟩
      have hm := Gf.mul_lt p' x' hp
      have hm2 := Gf.mul_lt x' x' hx
      have hs : Gf.powF (f + 1) p' x' y.toNat = Gf.powF f (if y.toNat % 2 = 1 then Gf.mul p' x' else p') (Gf.mul x' x') (y.toNat / 2) := by
        simp only [Gf.powF]; rw [if_neg (by omega)]
      have HS := Lib.hid hs; clear hs
      have hf2 : (y / 2).toNat < 2 ^ f := by rw [Nat.pow_succ] at hf; omega
      go_wp2_with (go_at_call 152; refine (mul_any _ _ _ (by omega) (by omega) (by omega) (by omega)).mono ?_; rintro e w' ⟨rfl, rfl⟩)
      · go_round
        case rel =>
          have hodd : (y % 2 != 0) = true := by assumption
          refine ⟨f, Gf.mul p' x', Gf.mul x' x', y / 2, hm2, hm, by omega, hf2, ?_, by simp, rfl, by simp⟩
          rw [← HV.out, HS.out, if_pos (by simp at hodd; omega), show (y / 2).toNat = y.toNat / 2 from by omega]
        case measure => simp [intOf]; omega
      · go_round
        case rel =>
          have hodd : (y % 2 != 0) = false := by assumption
          refine ⟨f, p', Gf.mul x' x', y / 2, hm2, hp, by omega, hf2, ?_, by simp, rfl, by simp⟩
          rw [← HV.out, HS.out, if_neg (by simp at hodd; omega), show (y / 2).toNat = y.toNat / 2 from by omega]
        case measure => simp [intOf]; omega
    · go_wp2_with fail
      go_ret
      refine ⟨ret_int ?_, rfl⟩
      rw [← HV.out, show y.toNat = 0 from by omega, Gf.powF_zero]

set_option maxRecDepth 100000 in
set_option maxHeartbeats 400000 in
theorem inv_any (a : Int) (w : World) (h0 : 0 ≤ a) (h1 : a ≤ 255) :
    Calls Tryz.prog 150 #[.int .u8 a] w fun e w' => e = .returned (.int .u8 ((Gf.inv a.toNat : Nat) : Int)) ∧ w = w' := by
  go_enter Tryz.func150, Tryz.ntmps150
  go_wp2_with (go_at_call 172; refine (pow_any _ _ _ (by omega) (by omega) (by omega)).mono ?_; rintro e w' ⟨rfl, rfl⟩)
  go_ret
  exact ⟨rfl, rfl⟩

end Field
end Go.Proofs.YtgfdomdbjiflmaaGreatDoor

/- The walks of the reference of package field. -/
namespace Go.Proofs.YtgfdomdbjiflmaaGreatDoor
open Go.RowKit
namespace RefField
open Go.Proofs.YtgfdomdbjiflmaaGreatDoor.Field
attribute [local irreducible] Gf.mul Gf.inv Gf.pow Gf.logN Gf.logB Gf.xt Gf.cl Gf.red Gf.rmul

theorem ofInt64 (a : Nat) (ha : a < 9223372036854775808) : (BitVec.ofInt 64 (a : Int)).toNat = a := by
  rw [BitVec.ofInt_natCast, BitVec.toNat_ofNat]; exact Nat.mod_eq_of_lt (by omega)
theorem xor64 (a b : Nat) (ha : a < 65536) (hb : b < 65536) : bits .xor .i64 (a : Int) (b : Int) = ((a ^^^ b : Nat) : Int) := by
  have hx : a ^^^ b < 2 ^ 16 := Nat.xor_lt_two_pow (by omega) (by omega)
  show IntKind.i64.wrap ((BitVec.ofInt 64 (a : Int) ^^^ BitVec.ofInt 64 (b : Int)).toNat : Int) = _
  rw [BitVec.toNat_xor, ofInt64 a (by omega), ofInt64 b (by omega), IntKind.wrap_i64]
  omega

theorem bit64 (b k : Nat) : ((((b : Nat) : Int) / 2 ^ k).tmod 2 == 1) = b.testBit k := by
  have h : ((b : Int) / 2 ^ k).tmod 2 = ((b / 2 ^ k % 2 : Nat) : Int) := by
    rw [Int.tmod_eq_emod_of_nonneg (Int.ediv_nonneg (by omega) (Int.le_of_lt (Int.pow_pos (by decide))))]; simp
  rw [h, Gf.testBit_div, Bool.eq_iff_iff]
  simp only [beq_iff_eq, decide_eq_true_eq]
  omega
theorem shl64 (a k : Nat) (ha : a < 512) (hk : k < 8) : wrap64 ((a : Int) * 2 ^ k) = ((a <<< k : Nat) : Int) ∧ a <<< k < 65536 := by
  have hp : 2 ^ k ≤ 2 ^ 7 := Nat.pow_le_pow_right (by decide) (by omega)
  have hm : a * 2 ^ k ≤ 511 * 2 ^ 7 := Nat.mul_le_mul (by omega) hp
  have he : (a : Int) * 2 ^ k = ((a * 2 ^ k : Nat) : Int) := by simp
  rw [Nat.shiftLeft_eq, he, IntWalk.wrap64_in _ (by omega)]
  exact ⟨rfl, by omega⟩

set_option maxRecDepth 100000 in
set_option maxHeartbeats 400000 in
theorem mul_any (a b : Nat) (w : World) (h1 : a ≤ 255) (g1 : b ≤ 255) :
    Calls Tryz.prog 175 #[.int .u8 (a : Int), .int .u8 (b : Int)] w fun e w' => e = .returned (.int .u8 ((Gf.rmul a b : Nat) : Int)) ∧ w = w' := by
  have hf : Gf.rmul a b = Gf.red (Gf.cl a b 8) 7 % 256 := by with_unfolding_all rfl
  rw [hf]; clear hf
  go_enter Tryz.func175, Tryz.ntmps175
  go_wp2
  go_loop [5, 6] (fun p i => ∃ k : Nat, k ≤ 8 ∧ i = .int .i64 k ∧ p = .int .i64 ((Gf.cl a b k : Nat) : Int)) (fun _ i => 8 - (intOf i).toNat)
  case atStart => exact ⟨0, by omega, rfl, by unfold Gf.cl; rfl⟩
  case round =>
    obtain ⟨k, hk, rfl, rfl⟩ := hrel
    have hl := Gf.cl_lt a b k (by omega) hk
    by_cases hlt : k < 8
    · obtain ⟨s1, s2⟩ := shl64 a k (by omega) hlt
      have hx := xor64 (Gf.cl a b k) (a <<< k) hl s2
      have hb := bit64 b k
      have hs : Gf.cl a b (k + 1) = if b.testBit k then Gf.cl a b k ^^^ (a <<< k) else Gf.cl a b k := by with_unfolding_all rfl
      cases hc : b.testBit k
      all_goals
        rw [hc] at hb hs
        have HS := Lib.hid hs; have HX := Lib.hid hx; have S1 := Lib.hid s1; clear hs hx hc s1 s2
        go_wp2_with fail
        go_round
        case rel => exact ⟨k + 1, by omega, by go_num, by rw [HS.out]; first | rfl | (rw [S1.out, HX.out]; rfl)⟩
        case measure => simp [intOf]; omega
    · obtain rfl : k = 8 := by omega
      go_wp2_with fail
      go_loop [5, 7] (fun p i => ∃ j : Nat, j ≤ 7 ∧ i = .int .i64 (14 - (j : Int)) ∧ p = .int .i64 ((Gf.red (Gf.cl a b 8) j : Nat) : Int)) (fun _ i => (intOf i).toNat)
      case atStart => exact ⟨0, by omega, rfl, by unfold Gf.red; rfl⟩
      case round =>
        obtain ⟨j, hj, rfl, rfl⟩ := hrel
        generalize hcd : Gf.cl a b 8 = c at *
        have HC := Lib.hid hcd; clear hcd
        have hr := Gf.red_lt c j hl hj
        by_cases hlt : j < 7
        · obtain ⟨s1, s2⟩ := shl64 283 (14 - j - 8) (by omega) (by omega)
          have hx := xor64 (Gf.red c j) (283 <<< (14 - j - 8)) hr s2
          have hb := bit64 (Gf.red c j) (14 - j)
          have hs : Gf.red c (j + 1) = if (Gf.red c j).testBit (14 - j) then Gf.red c j ^^^ (283 <<< (14 - j - 8)) else Gf.red c j := by
            rw [show 14 - j - 8 = 6 - j from by omega]; with_unfolding_all rfl
          cases hc : (Gf.red c j).testBit (14 - j)
          all_goals
            rw [hc] at hb hs
            have HS := Lib.hid hs; have HX := Lib.hid hx; have S1 := Lib.hid s1; clear hs hx hc s1 s2
            go_wp2_with fail
            go_round
            case rel => exact ⟨j + 1, by omega, by congr 1; omega, by rw [HS.out]; first | rfl | (rw [show wrap64 (283 * 2 ^ (14 - j - 8)) = ((283 <<< (14 - j - 8) : Nat) : Int) from S1.out, HX.out]; rfl)⟩
            case measure => simp [intOf]; omega
        · obtain rfl : j = 7 := by omega
          go_wp2_with fail
          go_ret
          have hm : ((Gf.red c 7 : Nat) : Int) % 256 = ((Gf.red c 7 % 256 : Nat) : Int) := by simp
          exact ⟨ret_int (by rw [HC.out]; try exact hm), rfl⟩

set_option maxRecDepth 100000 in
set_option maxHeartbeats 400000 in
theorem mul_ret (a b : Nat) (w : World) (h1 : a ≤ 255) (g1 : b ≤ 255) :
    Calls Tryz.prog 175 #[.int .u8 (a : Int), .int .u8 (b : Int)] w fun e w' => e = .returned (.int .u8 ((Gf.mul a b : Nat) : Int)) ∧ w = w' := by
  rw [← Gf.rmul_eq a b (by omega) (by omega)]; exact mul_any a b w h1 g1

set_option maxRecDepth 100000 in
set_option maxHeartbeats 400000 in
theorem pow_ret (a : Nat) (n : Int) (w : World) (h1 : a ≤ 255) (hn : n ≤ 9223372036854775807) :
    Calls Tryz.prog 154 #[.int .u8 (a : Int), .int .i64 n] w fun e w' => e = .returned (.int .u8 ((Gf.pow a n.toNat : Nat) : Int)) ∧ w = w' := by
  by_cases h : n < 1
  · have hz : Gf.pow a n.toNat = 1 := by rw [show n.toNat = 0 from by omega]; exact Gf.pow_zero a
    have HZ := Lib.hid hz; clear hz
    go_enter Tryz.func154, Tryz.ntmps154
    go_wp2_with fail
    go_ret
    rw [HZ.out]; exact ⟨rfl, rfl⟩
  · by_cases ha : a = 0
    · subst ha
      have hz : Gf.pow 0 n.toNat = 0 := Gf.pow_of_zero n.toNat (by omega) (by omega)
      have HZ := Lib.hid hz; clear hz
      go_enter Tryz.func154, Tryz.ntmps154
      go_wp2_with fail
      go_ret
      rw [HZ.out]; exact ⟨rfl, rfl⟩
    · have hb : ((a : Int) == 0) = false := by simp; omega
      have hz : Gf.pow a n.toNat = Gf.ipw a (n.toNat % 255) := Gf.pow_mod a n.toNat (by omega) (by omega) (by omega)
      have HZ := Lib.hid hz; clear hz
      have hm : n % 255 = ((n.toNat % 255 : Nat) : Int) := by omega
      have hq : n.toNat % 255 < 255 := Nat.mod_lt _ (by decide)
      generalize hqq : n.toNat % 255 = q at *
      have HQ := Lib.hid hqq; clear hqq
      have HA := Lib.hid ha; clear ha
      go_enter Tryz.func154, Tryz.ntmps154
      go_wp2_with fail
      go_loop [5, 6] (fun p i => ∃ k : Nat, k ≤ q ∧ i = .int .i64 (k : Int) ∧ p = .int .u8 ((Gf.ipw a k : Nat) : Int)) (fun _ i => 255 - (intOf i).toNat)
      case atStart => exact ⟨0, by omega, rfl, rfl⟩
      case round =>
        obtain ⟨k, hk, rfl, rfl⟩ := hrel
        have hp := Gf.ipw_lt a k
        by_cases hlt : k < q
        · have hs : Gf.ipw a (k + 1) = Gf.mul (Gf.ipw a k) a := rfl
          have HS := Lib.hid hs; clear hs
          go_wp2_with fail
          refine (mul_ret (Gf.ipw a k) a _ (by omega) h1).mono ?_
          rintro e w' ⟨rfl, rfl⟩
          go_wp2_with fail
          go_round
          case rel => exact ⟨k + 1, by omega, by go_num, by rw [HS.out]⟩
          case measure => simp [intOf]; omega
        · obtain rfl : k = q := by omega
          go_wp2_with fail
          go_ret
          rw [HZ.out]; exact ⟨rfl, rfl⟩

end RefField
end Go.Proofs.YtgfdomdbjiflmaaGreatDoor
