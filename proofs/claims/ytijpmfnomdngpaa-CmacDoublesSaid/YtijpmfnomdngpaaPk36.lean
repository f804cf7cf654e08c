/- Joined texts. -/
-- PACK: YtijpmfnomdngpaaCmacM
import Derived.Test.YtijpmfnomdngpaaPk33

/- Package cmac: doubling goes over sums, and loses nothing; plain mathematics. -/
namespace Go.Proofs.Ytijpmfnomdngpaa
namespace Cmac
open Rnd Aes

theorem low_xor (x c : Nat) (hc : c < 2) : x * 2 % 256 + c = (x * 2 % 256) ^^^ c := by
  have h1 : x * 2 % 256 = 2 * (x % 128) := by omega
  rw [h1]
  have hm : 2 * (x % 128) < 2 ^ 8 := by omega
  have h : (List.range 128).all (fun n => (List.range 2).all fun c => 2 * n + c == (2 * n) ^^^ c) = true := by decide +kernel
  rw [List.all_eq_true] at h
  have h2 := h (x % 128) (List.mem_range.2 (Nat.mod_lt _ (by decide)))
  rw [List.all_eq_true] at h2
  have h3 := h2 c (List.mem_range.2 hc)
  rwa [beq_iff_eq] at h3
theorem dbl_xor (x y : Nat) : (x ^^^ y) * 2 % 256 = (x * 2 % 256) ^^^ (y * 2 % 256) := by
  have h1 : ∀ n : Nat, n * 2 % 256 = (n <<< 1) % 2 ^ 8 := fun n => by rw [Nat.shiftLeft_eq]
  rw [h1, h1, h1, Nat.shiftLeft_xor_distrib, Nat.xor_mod_two_pow]
theorem top_xor (x y : Nat) : (x ^^^ y) / 128 = (x / 128) ^^^ (y / 128) := by
  have h1 : ∀ n : Nat, n / 128 = n >>> 7 := fun n => by rw [Nat.shiftRight_eq_div_pow]
  rw [h1, h1, h1, Nat.shiftRight_xor_distrib]
theorem car_xor (a b : List UInt8) (j : Nat) : carN (xorL a b) j = carN a j ^^^ carN b j := by
  unfold carN
  by_cases h : j < 16
  · rw [if_pos h, if_pos h, if_pos h, xor_ent a b j h, top_xor]
  · rw [if_neg h, if_neg h, if_neg h]; rfl
theorem pre_xor (a b : List UInt8) (j : Nat) (hj : j < 16) : preN (xorL a b) j = preN a j ^^^ preN b j := by
  unfold preN
  rw [low_xor _ _ (carN_lt _ _), low_xor _ _ (carN_lt _ _), low_xor _ _ (carN_lt _ _), xor_ent a b j hj, dbl_xor, car_xor]
  ac_rfl
theorem dblN_eq (l : List UInt8) (j : Nat) : dblN l j = preN l j ^^^ (if j = 15 then 135 * carN l 0 else 0) := by
  unfold dblN
  have h := carN_lt l 0
  by_cases hj : j = 15
  · rw [if_pos hj]
    by_cases hc : carN l 0 = 0
    · rw [if_neg (fun h2 => h2.2 hc), hc, Nat.mul_zero, Nat.xor_zero]
    · rw [if_pos ⟨hj, hc⟩, show carN l 0 = 1 from by omega]
  · rw [if_neg hj, if_neg (fun h2 => hj h2.1), Nat.xor_zero]
theorem dblN_xor (a b : List UInt8) (j : Nat) (hj : j < 16) : dblN (xorL a b) j = dblN a j ^^^ dblN b j := by
  rw [dblN_eq, dblN_eq, dblN_eq, pre_xor a b j hj]
  have h : (if j = 15 then 135 * carN (xorL a b) 0 else 0) = (if j = 15 then 135 * carN a 0 else 0) ^^^ (if j = 15 then 135 * carN b 0 else 0) := by
    by_cases h15 : j = 15
    · rw [if_pos h15, if_pos h15, if_pos h15, car_xor]
      have ha := carN_lt a 0
      have hb := carN_lt b 0
      generalize carN a 0 = x at ha
      generalize carN b 0 = y at hb
      match x, y, ha, hb with
      | 0, 0, _, _ | 0, 1, _, _ | 1, 0, _, _ | 1, 1, _, _ => rfl
      | n + 2, _, h, _ | _, n + 2, _, h => omega
    · rw [if_neg h15, if_neg h15, if_neg h15]; rfl
  rw [h]
  ac_rfl
theorem dblL_xor (a b : List UInt8) : dblL (xorL a b) = xorL (dblL a) (dblL b) := by
  refine ext16 _ _ (dblL_len _) (xorL_len _ _) fun i hi => ?_
  rw [dblL_ent _ _ hi, xor_ent _ _ _ hi, dblL_ent _ _ hi, dblL_ent _ _ hi, dblN_xor a b i hi]
theorem dbl_zero (l : List UInt8) (h : ∀ j, j < 16 → dblN l j = 0) : ∀ j, j < 16 → ent l j = 0 := by
  have h15 := h 15 (by decide)
  rw [dblN_eq, if_pos rfl] at h15
  have hp15 : preN l 15 = ent l 15 * 2 % 256 := by unfold preN carN; rw [if_neg (by decide)]; rfl
  have hc := carN_lt l 0
  have hc0 : carN l 0 = 0 := by
    apply Classical.byContradiction
    intro hne
    rw [show carN l 0 = 1 from by omega, Nat.mul_one] at h15
    have h2 : preN l 15 = 135 := by
      have h3 : (preN l 15 ^^^ 135) ^^^ 135 = 135 := by rw [h15, Nat.zero_xor]
      rwa [Nat.xor_assoc, Nat.xor_self, Nat.xor_zero] at h3
    omega
  have hpre : ∀ j, j < 16 → preN l j = 0 := fun j hj => by
    have h1 := h j hj
    rw [dblN_eq, hc0, Nat.mul_zero] at h1
    simpa using h1
  intro j hj
  have h1 := hpre j hj
  have hcj : carN l j = 0 := by
    by_cases h0 : j = 0
    · rw [h0]; exact hc0
    · have h2 := hpre (j - 1) (by omega)
      unfold preN at h2
      rw [show j - 1 + 1 = j from by omega] at h2
      omega
  unfold preN at h1
  unfold carN at hcj
  rw [if_pos hj] at hcj
  have := ent_lt l j
  omega
theorem dblL_inj (a b : List UInt8) (ha : a.length = 16) (hb : b.length = 16) (h : dblL a = dblL b) : a = b := by
  refine ext16 a b ha hb fun i hi => ?_
  have h0 : ∀ j, j < 16 → dblN (xorL a b) j = 0 := fun j hj => by
    rw [dblN_xor a b j hj, ← dblL_ent a j hj, ← dblL_ent b j hj, h, Nat.xor_self]
  have h1 := dbl_zero _ h0 i hi
  rw [xor_ent a b i hi] at h1
  have h2 : (ent a i ^^^ ent b i) ^^^ ent b i = ent b i := by rw [h1, Nat.zero_xor]
  rwa [Nat.xor_assoc, Nat.xor_self, Nat.xor_zero] at h2
end Cmac
end Go.Proofs.Ytijpmfnomdngpaa
