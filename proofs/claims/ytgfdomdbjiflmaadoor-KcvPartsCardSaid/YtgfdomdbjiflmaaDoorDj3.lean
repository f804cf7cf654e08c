/- Joined texts. -/
-- PACK: YtgfdomdbjiflmaaDoorField YtgfdomdbjiflmaaDoorRefField
import Derived.Test.YtgfdomdbjiflmaaDoorRows
import Derived.WalkKit
import Derived.WalkSpells
import Derived.WalkLawsBesides
import Derived.Lib.Hide
import Derived.Test.YtgfdomdbjiflmaaDoorDj1

/- The walks of package field. -/
namespace Go.Proofs.YtgfdomdbjiflmaaDoor
open Go.RowKit
namespace Field

theorem ret_int {k : IntKind} {a b : Int} (h : a = b) : Ending.returned (.int k a) = .returned (.int k b) := by rw [h]

/-- a byte fact for every byte, out of the list of all -/
theorem byte_all {p : Int → Bool} (h : (List.range 256).all (fun n => p (n : Int)) = true) (a : Int) (h0 : 0 ≤ a) (h1 : a ≤ 255) : p a = true := by
  obtain ⟨n, rfl⟩ := Int.eq_ofNat_of_zero_le h0
  exact List.all_eq_true.1 h n (List.mem_range.2 (by omega))

theorem twice_hi (a : Int) (h0 : 0 ≤ a) (h1 : a ≤ 255) (h : (bits .and .u8 a 128 != 0) = true) : bits .xor .u8 (a * 2 % 256) 27 = ((Gf.xt a.toNat : Nat) : Int) := by
  have := byte_all (p := fun a => !(bits .and .u8 a 128 != 0) || bits .xor .u8 (a * 2 % 256) 27 == ((Gf.xt a.toNat : Nat) : Int)) (by decide +kernel) a h0 h1
  simpa [h] using this
theorem twice_lo (a : Int) (h0 : 0 ≤ a) (h1 : a ≤ 255) (h : (bits .and .u8 a 128 != 0) = false) : a * 2 % 256 = ((Gf.xt a.toNat : Nat) : Int) := by
  have := byte_all (p := fun a => (bits .and .u8 a 128 != 0) || a * 2 % 256 == ((Gf.xt a.toNat : Nat) : Int)) (by decide +kernel) a h0 h1
  simpa [h] using this

set_option maxRecDepth 100000 in
set_option maxHeartbeats 400000 in
theorem twice_any (a : Int) (w : World) (h0 : 0 ≤ a) (h1 : a ≤ 255) :
    Calls Tryd.prog 110 #[.int .u8 a] w fun e w' => e = .returned (.int .u8 ((Gf.xt a.toNat : Nat) : Int)) ∧ w = w' := by
  go_enter Tryd.func110, Tryd.ntmps110
  go_wp2
  · go_ret
    exact ⟨ret_int (twice_hi a h0 h1 (by assumption)), rfl⟩
  · go_ret
    exact ⟨ret_int (twice_lo a h0 h1 (by assumption)), rfl⟩

set_option maxRecDepth 100000 in
set_option maxHeartbeats 400000 in
theorem add_any (a b : Int) (w : World) (h0 : 0 ≤ a) (h1 : a ≤ 255) (g0 : 0 ≤ b) (g1 : b ≤ 255) :
    Calls Tryd.prog 147 #[.int .u8 a, .int .u8 b] w fun e w' => e = .returned (.int .u8 ((a.toNat ^^^ b.toNat : Nat) : Int)) ∧ w = w' := by
  go_enter Tryd.func147, Tryd.ntmps147
  go_wp2
  go_ret
  exact ⟨ret_int (u8_xor a b h0 (by omega) g0 (by omega)), rfl⟩

theorem bit_any (b : Int) (h0 : 0 ≤ b) (h1 : b ≤ 255) (k : Nat) (hk : k < 8) : (bits .and .u8 (b / 2 ^ k) 1 != 0) = b.toNat.testBit k := by
  have := byte_all (p := fun b => (List.range 8).all fun k => (bits .and .u8 (b / 2 ^ k) 1 != 0) == b.toNat.testBit k) (by decide +kernel) b h0 h1
  simpa using List.all_eq_true.1 this k (List.mem_range.2 hk)

set_option maxRecDepth 100000 in
set_option maxHeartbeats 400000 in
theorem mul_any (a b : Int) (w : World) (h0 : 0 ≤ a) (h1 : a ≤ 255) (g0 : 0 ≤ b) (g1 : b ≤ 255) :
    Calls Tryd.prog 130 #[.int .u8 a, .int .u8 b] w fun e w' => e = .returned (.int .u8 ((Gf.mul a.toNat b.toNat : Nat) : Int)) ∧ w = w' := by
  go_enter Tryd.func130, Tryd.ntmps130
  go_wp2
  go_loop [0, 5, 7] (fun x s i => ∃ k : Nat, k ≤ 8 ∧ i = .int .i64 k ∧ s = .int .u8 (((Gf.st a.toNat b.toNat k).1 : Nat) : Int) ∧ x = .int .u8 (((Gf.st a.toNat b.toNat k).2 : Nat) : Int)) (fun _ _ i => 8 - (intOf i).toNat)
  case atStart => exact ⟨0, by omega, rfl, rfl, by simp [Gf.st]; omega⟩
  case round =>
    obtain ⟨k, hk, rfl, rfl, rfl⟩ := hrel
    have hl := Gf.st_lt a.toNat b.toNat k (by omega)
    by_cases hlt : k < 8
    · have hb := bit_any b g0 g1 k hlt
      have e1 : Gf.st a.toNat b.toNat (k + 1) = ((if b.toNat.testBit k then (Gf.st a.toNat b.toNat k).1 ^^^ (Gf.st a.toNat b.toNat k).2 else (Gf.st a.toNat b.toNat k).1), Gf.xt (Gf.st a.toNat b.toNat k).2) := rfl
      cases hc : b.toNat.testBit k
      all_goals
        rw [hc] at hb e1
        have E1 := Lib.hid e1; clear e1 hc
        generalize Gf.st a.toNat b.toNat k = t at *
        go_wp2_with (first | (go_at_call 147; refine (add_any _ _ _ (by omega) (by omega) (by omega) (by omega)).mono ?_; rintro e w' ⟨rfl, rfl⟩) | (go_at_call 110; refine (twice_any _ _ (by omega) (by omega)).mono ?_; rintro e w' ⟨rfl, rfl⟩))
        go_round
        case rel => exact ⟨k + 1, by omega, by go_num, by rw [E1.out]; try simp, by rw [E1.out]; try simp⟩
        case measure => simp [intOf]; omega
    · go_wp2_with fail
      go_ret
      obtain rfl : k = 8 := by omega
      exact ⟨rfl, rfl⟩

set_option maxRecDepth 100000 in
set_option maxHeartbeats 400000 in
theorem pow_any (a n : Int) (w : World) (h0 : 0 ≤ a) (h1 : a ≤ 255) (hn : n ≤ 9223372036854775807) :
    Calls Tryd.prog 146 #[.int .u8 a, .int .i64 n] w fun e w' => e = .returned (.int .u8 ((Gf.pow a.toNat n.toNat : Nat) : Int)) ∧ w = w' := by
  go_enter Tryd.func146, Tryd.ntmps146
  go_wp2
  go_loop [0, 1, 5] (fun x m p => ∃ (f p' x' : Nat) (y : Int), x' < 256 ∧ p' < 256 ∧ y ≤ 9223372036854775807 ∧ y.toNat < 2 ^ f ∧ Gf.powF f p' x' y.toNat = Gf.pow a.toNat n.toNat ∧ x = .int .u8 (x' : Int) ∧ m = .int .i64 y ∧ p = .int .u8 (p' : Int)) (fun _ m _ => (intOf m).toNat)
  case atStart => exact ⟨64, 1, a.toNat, n, by omega, by omega, hn, by omega, rfl, by rw [Int.toNat_of_nonneg h0], rfl, rfl⟩
  case round =>
    obtain ⟨f, p', x', y, hx, hp, hy, hf, hv, rfl, rfl, rfl⟩ := hrel
    have HV := Lib.hid hv; clear hv
    by_cases hlt : 0 < y
    · obtain ⟨f, rfl⟩ : ∃ g, f = g + 1 := by cases f with
        | zero => simp at hf; omega
        | succ g => exact ⟨g, rfl⟩
      have hm := Gf.mul_lt p' x' hp
      have hm2 := Gf.mul_lt x' x' hx
      have hs : Gf.powF (f + 1) p' x' y.toNat = Gf.powF f (if y.toNat % 2 = 1 then Gf.mul p' x' else p') (Gf.mul x' x') (y.toNat / 2) := by
        simp only [Gf.powF]; rw [if_neg (by omega)]
      have HS := Lib.hid hs; clear hs
      have hf2 : (y / 2).toNat < 2 ^ f := by rw [Nat.pow_succ] at hf; omega
      go_wp2_with (go_at_call 130; refine (mul_any _ _ _ (by omega) (by omega) (by omega) (by omega)).mono ?_; rintro e w' ⟨rfl, rfl⟩)
      · go_round
        case rel =>
          have hodd : (y % 2 != 0) = true := by assumption
          refine ⟨f, Gf.mul p' x', Gf.mul x' x', y / 2, hm2, hm, by omega, hf2, ?_, by simp, rfl, by simp⟩
          rw [← HV.out, HS.out, if_pos (by simp at hodd; omega), show (y / 2).toNat = y.toNat / 2 from by omega]
        case measure => simp [intOf]; omega
      · go_round
        case rel =>
          have hodd : (y % 2 != 0) = false := by assumption
          refine ⟨f, p', Gf.mul x' x', y / 2, hm2, hp, by omega, hf2, ?_, by simp, rfl, by simp⟩
          rw [← HV.out, HS.out, if_neg (by simp at hodd; omega), show (y / 2).toNat = y.toNat / 2 from by omega]
        case measure => simp [intOf]; omega
    · go_wp2_with fail
      go_ret
      refine ⟨ret_int ?_, rfl⟩
      rw [← HV.out, show y.toNat = 0 from by omega, Gf.powF_zero]

set_option maxRecDepth 100000 in
set_option maxHeartbeats 400000 in
theorem inv_any (a : Int) (w : World) (h0 : 0 ≤ a) (h1 : a ≤ 255) :
    Calls Tryd.prog 128 #[.int .u8 a] w fun e w' => e = .returned (.int .u8 ((Gf.inv a.toNat : Nat) : Int)) ∧ w = w' := by
  go_enter Tryd.func128, Tryd.ntmps128
  go_wp2_with (go_at_call 146; refine (pow_any _ _ _ (by omega) (by omega) (by omega)).mono ?_; rintro e w' ⟨rfl, rfl⟩)
  go_ret
  exact ⟨rfl, rfl⟩

end Field
end Go.Proofs.YtgfdomdbjiflmaaDoor

/- The walks of the reference of package field. -/
namespace Go.Proofs.YtgfdomdbjiflmaaDoor
open Go.RowKit
namespace RefField
open Go.Proofs.YtgfdomdbjiflmaaDoor.Field
attribute [local irreducible] Gf.mul Gf.inv Gf.pow Gf.logN Gf.logB Gf.xt Gf.cl Gf.red Gf.rmul

theorem ofInt64 (a : Nat) (ha : a < 9223372036854775808) : (BitVec.ofInt 64 (a : Int)).toNat = a := by
  rw [BitVec.ofInt_natCast, BitVec.toNat_ofNat]; exact Nat.mod_eq_of_lt (by omega)
theorem xor64 (a b : Nat) (ha : a < 65536) (hb : b < 65536) : bits .xor .i64 (a : Int) (b : Int) = ((a ^^^ b : Nat) : Int) := by
  have hx : a ^^^ b < 2 ^ 16 := Nat.xor_lt_two_pow (by omega) (by omega)
  show IntKind.i64.wrap ((BitVec.ofInt 64 (a : Int) ^^^ BitVec.ofInt 64 (b : Int)).toNat : Int) = _
  rw [BitVec.toNat_xor, ofInt64 a (by omega), ofInt64 b (by omega), IntKind.wrap_i64]
  omega

theorem bit64 (b k : Nat) : ((((b : Nat) : Int) / 2 ^ k).tmod 2 == 1) = b.testBit k := by
  have h : ((b : Int) / 2 ^ k).tmod 2 = ((b / 2 ^ k % 2 : Nat) : Int) := by
    rw [Int.tmod_eq_emod_of_nonneg (Int.ediv_nonneg (by omega) (Int.le_of_lt (Int.pow_pos (by decide))))]; simp
  rw [h, Gf.testBit_div, Bool.eq_iff_iff]
  simp only [beq_iff_eq, decide_eq_true_eq]
  omega
theorem shl64 (a k : Nat) (ha : a < 512) (hk : k < 8) : wrap64 ((a : Int) * 2 ^ k) = ((a <<< k : Nat) : Int) ∧ a <<< k < 65536 := by
  have hp : 2 ^ k ≤ 2 ^ 7 := Nat.pow_le_pow_right (by decide) (by omega)
  have hm : a * 2 ^ k ≤ 511 * 2 ^ 7 := Nat.mul_le_mul (by omega) hp
  have he : (a : Int) * 2 ^ k = ((a * 2 ^ k : Nat) : Int) := by simp
  rw [Nat.shiftLeft_eq, he, IntWalk.wrap64_in _ (by omega)]
  exact ⟨rfl, by omega⟩

end RefField
end Go.Proofs.YtgfdomdbjiflmaaDoor
