/- Joined texts. -/
-- PACK: YtgfdomdbjiflmaaDoorSbox
import Derived.Test.YtgfdomdbjiflmaaDoorDj4
import Derived.Test.YtgfdomdbjiflmaaDoorDj3
import Derived.Deep.OwnRows
import Derived.Deep.Draws
import Derived.Deep.QuietTactic
import Derived.BigQuiet
import Derived.Laws.BytesArg

/- The walks of package sbox. -/
namespace Go.Proofs.YtgfdomdbjiflmaaDoor
open Go.RowKit
namespace Sbox
attribute [local irreducible] Gf.mul Gf.inv Gf.pow Gf.logN Gf.logB Gf.xt

/-- a byte turned left by n places -/
def turn (a n : Nat) : Nat := (a * 2 ^ n % 256) ||| (a / 2 ^ (8 - n))

theorem turn_lt (a n : Nat) (ha : a < 256) (_hn : n < 8) : turn a n < 256 := by
  unfold turn
  refine Nat.or_lt_two_pow (n := 8) (Nat.mod_lt _ (by decide)) ?_
  exact Nat.lt_of_le_of_lt (Nat.div_le_self _ _) ha

set_option maxRecDepth 100000 in
set_option maxHeartbeats 400000 in
theorem turn_any (a : Nat) (n : Int) (w : World) (h1 : a ≤ 255) (_hn : -9223372036854775808 ≤ n ∧ n ≤ 9223372036854775807) :
    Calls Tryd.prog 148 #[.int .u8 (a : Int), .int .i64 n] w fun e w' => e = .returned (.int .u8 ((turn a (n % 8).toNat : Nat) : Int)) ∧ ∃ q, w' = w.drewN q := by
  have ht : -7 ≤ n.tmod 8 ∧ n.tmod 8 ≤ 7 := by
    rw [Int.tmod_eq_emod]; split <;> omega
  obtain ⟨ht1, ht2⟩ := ht
  have hk : (n.tmod 8 + 8) % 8 = n % 8 := by
    rw [Int.tmod_eq_emod]; split <;> omega
  obtain ⟨k, hkk⟩ := Int.eq_ofNat_of_zero_le (show 0 ≤ n % 8 by omega)
  have hk8 : k < 8 := by omega
  rw [hkk] at hk
  have hfin : (n % 8).toNat = k := by rw [hkk]; rfl
  rw [hfin]
  have hor : bits .or .u8 (((a * 2 ^ k % 256 : Nat)) : Int) ((a / 2 ^ (8 - k) : Nat) : Int) = ((turn a k : Nat) : Int) := u8_or_nat _ _ (Nat.mod_lt _ (by decide)) (Nat.lt_of_le_of_lt (Nat.div_le_self _ _) (by omega))
  have HO := Lib.hid hor
  clear hkk hfin hor
  have hk2 : n.tmod 8 % 8 = (k : Int) := by rw [← hk]; omega
  go_enter Tryd.func148, Tryd.ntmps148
  go_wp2
  go_region
  go_wp2
  go_ret
  refine ⟨?_, _, rfl⟩
  rw [← HO.out]
  simp

/-- the second part of Sub, after k turns -/
def mixK (b : Nat) : Nat → Nat
  | 0 => b ^^^ 99
  | k+1 => mixK b k ^^^ turn b (k + 1)
def mix (b : Nat) : Nat := mixK b 4
def sub (a : Nat) : Nat := mix (Gf.inv a)
def backIn (a : Nat) : Nat := ((turn a 1 ^^^ turn a 3) ^^^ turn a 6) ^^^ 5
def back (a : Nat) : Nat := Gf.inv (backIn a)
theorem mixK_lt (b k : Nat) (hb : b < 256) (hk : k ≤ 4) : mixK b k < 256 := by
  induction k with
  | zero => exact Nat.xor_lt_two_pow (n := 8) hb (by decide)
  | succ k ih => exact Nat.xor_lt_two_pow (n := 8) (ih (by omega)) (turn_lt _ _ hb (by omega))
theorem mix_lt (b : Nat) (hb : b < 256) : mix b < 256 := mixK_lt b 4 hb (by omega)
theorem sub_lt (a : Nat) : sub a < 256 := mix_lt _ (Gf.inv_lt a)
theorem back_lt (a : Nat) : back a < 256 := Gf.inv_lt _
theorem backIn_lt (a : Nat) (ha : a < 256) : backIn a < 256 :=
  Nat.xor_lt_two_pow (n := 8) (Nat.xor_lt_two_pow (n := 8) (Nat.xor_lt_two_pow (n := 8) (turn_lt _ _ ha (by omega)) (turn_lt _ _ ha (by omega))) (turn_lt _ _ ha (by omega))) (by decide)

/-- a call that only reckons, but for draws, and returns v -/
def Rdr (f : Nat) (args : Array Value) (v : Value) : Prop := ∀ w, Calls Tryd.prog f args w fun e w' => e = .returned v ∧ ∃ q, w' = w.drewN q
set_option maxRecDepth 100000 in
theorem Rdr.calls {f : Nat} {args : Array Value} {v : Value} (h : Rdr f args v) {w0 w : World} {q : Nat} (hw : w = w0.drewN q) {R : Ending → World → Prop} (k : ∀ w' q', w' = w0.drewN q' → R (.returned v) w') : Calls Tryd.prog f args w R :=
  (h w).mono fun _ _ ⟨he, q', hq⟩ => by subst he; subst hw; exact k _ (q + q') (by rw [hq, World.drewN_drewN])
theorem Rdr.mak {f : Nat} {args : Array Value} {v : Value} (h : Rdr f args v) : Mak f args v :=
  fun w => (h w).mono fun _ _ ⟨he, _q, hq⟩ => ⟨he, hq ▸ ⟨rfl, rfl, rfl, Nat.le_refl _, fun _ _ => rfl⟩⟩
theorem Rdr.of_ret {f : Nat} {args : Array Value} {v : Value} (h : Ret f args v) : Rdr f args v :=
  fun w => (h w).mono fun _ _ ⟨he, hw⟩ => ⟨he, 0, hw ▸ rfl⟩

theorem add_rdr (a b : Nat) (ha : a ≤ 255) (hb : b ≤ 255) : Rdr 147 #[.int .u8 (a : Int), .int .u8 (b : Int)] (.int .u8 ((a ^^^ b : Nat) : Int)) := Rdr.of_ret fun w => by
  have h := Field.add_any a b w (by omega) (by omega) (by omega) (by omega)
  rwa [Int.toNat_natCast, Int.toNat_natCast] at h
theorem inv_rdr (a : Nat) (ha : a ≤ 255) : Rdr 128 #[.int .u8 (a : Int)] (.int .u8 ((Gf.inv a : Nat) : Int)) := Rdr.of_ret fun w => by
  have h := Field.inv_any a w (by omega) (by omega)
  rwa [Int.toNat_natCast] at h
theorem turn_rdr (a k : Nat) (ha : a ≤ 255) (hk : k < 8) : Rdr 148 #[.int .u8 (a : Int), .int .i64 (k : Int)] (.int .u8 ((turn a k : Nat) : Int)) := fun w => by
  have h := turn_any a k w ha (by omega)
  rwa [show ((k : Int) % 8).toNat = k from by omega] at h

set_option maxRecDepth 100000 in
set_option maxHeartbeats 400000 in
theorem mixed_rdr (b : Nat) (hb : b ≤ 255) : Rdr 129 #[.int .u8 (b : Int)] (.int .u8 ((mix b : Nat) : Int)) := by
  intro w
  have H0 := Lib.hid (show w = w.drewN 0 from rfl)
  go_enter Tryd.func129, Tryd.ntmps129
  go_wp2_with fail
  refine (add_rdr b 99 hb (by omega)).calls H0.out ?_
  intro w1 q1 h1
  have H1 := Lib.hid h1
  clear h1
  go_wp2_with fail
  go_loopw [3, 4] (fun s i wr => ∃ k : Nat, k ≤ 4 ∧ i = .int .i64 ((k : Int) + 1) ∧ s = .int .u8 ((mixK b k : Nat) : Int) ∧ ∃ q, Hid (wr = w.drewN q)) (fun _ i _ => 5 - (intOf i).toNat)
  case atStart => exact ⟨0, by omega, rfl, rfl, _, H1⟩
  case round =>
    obtain ⟨k, hk, rfl, rfl, q, HW⟩ := hrel
    have hm := mixK_lt b k (by omega) hk
    by_cases hlt : k < 4
    · have ht := turn_lt b (k + 1) (by omega) (by omega)
      have c1 := turn_rdr b (k + 1) hb (by omega)
      have c2 := add_rdr (mixK b k) (turn b (k + 1)) (by omega) (by omega)
      have hs : mixK b (k + 1) = mixK b k ^^^ turn b (k + 1) := rfl
      have HS := Lib.hid hs
      clear hs
      go_wp2_with fail
      refine c1.calls HW.out ?_
      intro w2 q2 h2
      have H2 := Lib.hid h2
      clear h2
      go_wp2_with fail
      refine c2.calls H2.out ?_
      intro w3 q3 h3
      have H3 := Lib.hid h3
      clear h3
      go_wp2_with fail
      go_roundw
      case rel => exact ⟨k + 1, by omega, by go_num, by rw [HS.out], _, H3⟩
      case measure => simp [intOf]; omega
    · obtain rfl : k = 4 := by omega
      go_wp2_with fail
      go_ret
      exact ⟨rfl, q, HW.out⟩

set_option maxRecDepth 100000 in
set_option maxHeartbeats 400000 in
theorem sub_rdr (a : Nat) (ha : a ≤ 255) : Rdr 127 #[.int .u8 (a : Int)] (.int .u8 ((sub a : Nat) : Int)) := by
  intro w
  have H0 := Lib.hid (show w = w.drewN 0 from rfl)
  have hi := Gf.inv_lt a
  go_enter Tryd.func127, Tryd.ntmps127
  go_wp2_with fail
  refine (inv_rdr a ha).calls H0.out ?_
  intro w1 q1 h1
  have H1 := Lib.hid h1
  clear h1
  go_wp2_with fail
  refine (mixed_rdr (Gf.inv a) (by omega)).calls H1.out ?_
  intro w2 q2 h2
  have H2 := Lib.hid h2
  clear h2
  go_wp2_with fail
  go_ret
  exact ⟨rfl, _, H2.out⟩

theorem tab_all : (List.range 255).all (fun k => Gf.logN (Gf.pow 3 k) == k && Gf.logB (Gf.pow 3 k) && Gf.pow 3 k != 0 && Gf.inv (Gf.pow 3 k) == Gf.pow (Gf.inv 3) k) = true := by decide +kernel
theorem tab_at (k : Nat) (hk : k < 255) : Gf.logN (Gf.ipw 3 k) = k ∧ Gf.logB (Gf.ipw 3 k) = true ∧ Gf.ipw 3 k ≠ 0 ∧ Gf.ipw (Gf.inv 3) k = Gf.inv (Gf.ipw 3 k) := by
  have h := List.all_eq_true.1 tab_all k (List.mem_range.2 hk)
  rw [Gf.pow_ipw 3 k (by decide) (by omega), Gf.pow_ipw (Gf.inv 3) k (Gf.inv_lt 3) (by omega)] at h
  simp only [Bool.and_eq_true, beq_iff_eq, bne_iff_ne] at h
  exact ⟨h.1.1.1, h.1.1.2, h.1.2, h.2.symm⟩
theorem log_ipw (j : Nat) (hj : j < 256) (h0 : j ≠ 0) : Gf.logB j = true ∧ Gf.logN j < 255 ∧ Gf.ipw 3 (Gf.logN j) = j := by
  obtain ⟨_, h2, h3, h4⟩ := Gf.laws j hj h0
  rw [Gf.pow_ipw 3 _ (by decide) (by omega)] at h4
  exact ⟨h2, by omega, h4⟩

end Sbox
end Go.Proofs.YtgfdomdbjiflmaaDoor
