/- Joined texts. -/
-- PACK: YtglilnlhgdhnmaaSbox
import Derived.Test.YtglilnlhgdhnmaaSk5
import Derived.Test.YtglilnlhgdhnmaaSk4
import Derived.Deep.OwnRows
import Derived.Deep.Draws
import Derived.Deep.QuietTactic
import Derived.BigQuiet
import Derived.Laws.BytesArg

/- The walks of package sbox. -/
namespace Go.Proofs.Ytglilnlhgdhnmaa
open Go.RowKit
namespace Sbox
attribute [local irreducible] Gf.mul Gf.inv Gf.pow Gf.logN Gf.logB Gf.xt

/-- a byte turned left by n places -/
def turn (a n : Nat) : Nat := (a * 2 ^ n % 256) ||| (a / 2 ^ (8 - n))

theorem turn_lt (a n : Nat) (ha : a < 256) (_hn : n < 8) : turn a n < 256 := by
  unfold turn
  refine Nat.or_lt_two_pow (n := 8) (Nat.mod_lt _ (by decide)) ?_
  exact Nat.lt_of_le_of_lt (Nat.div_le_self _ _) ha

/-- the second part of Sub, after k turns -/
def mixK (b : Nat) : Nat → Nat
  | 0 => b ^^^ 99
  | k+1 => mixK b k ^^^ turn b (k + 1)
def mix (b : Nat) : Nat := mixK b 4
def sub (a : Nat) : Nat := mix (Gf.inv a)
def backIn (a : Nat) : Nat := ((turn a 1 ^^^ turn a 3) ^^^ turn a 6) ^^^ 5
def back (a : Nat) : Nat := Gf.inv (backIn a)
theorem mixK_lt (b k : Nat) (hb : b < 256) (hk : k ≤ 4) : mixK b k < 256 := by
  induction k with
  | zero => exact Nat.xor_lt_two_pow (n := 8) hb (by decide)
  | succ k ih => exact Nat.xor_lt_two_pow (n := 8) (ih (by omega)) (turn_lt _ _ hb (by omega))
theorem mix_lt (b : Nat) (hb : b < 256) : mix b < 256 := mixK_lt b 4 hb (by omega)
theorem sub_lt (a : Nat) : sub a < 256 := mix_lt _ (Gf.inv_lt a)
theorem back_lt (a : Nat) : back a < 256 := Gf.inv_lt _
theorem backIn_lt (a : Nat) (ha : a < 256) : backIn a < 256 :=
  Nat.xor_lt_two_pow (n := 8) (Nat.xor_lt_two_pow (n := 8) (Nat.xor_lt_two_pow (n := 8) (turn_lt _ _ ha (by omega)) (turn_lt _ _ ha (by omega))) (turn_lt _ _ ha (by omega))) (by decide)

/-- a call that only reckons, but for draws, and returns v -/
def Rdr (f : Nat) (args : Array Value) (v : Value) : Prop := ∀ w, Calls Try.prog f args w fun e w' => e = .returned v ∧ ∃ q, w' = w.drewN q
set_option maxRecDepth 100000 in
theorem Rdr.calls {f : Nat} {args : Array Value} {v : Value} (h : Rdr f args v) {w0 w : World} {q : Nat} (hw : w = w0.drewN q) {R : Ending → World → Prop} (k : ∀ w' q', w' = w0.drewN q' → R (.returned v) w') : Calls Try.prog f args w R :=
  (h w).mono fun _ _ ⟨he, q', hq⟩ => by subst he; subst hw; exact k _ (q + q') (by rw [hq, World.drewN_drewN])
theorem Rdr.mak {f : Nat} {args : Array Value} {v : Value} (h : Rdr f args v) : Mak f args v :=
  fun w => (h w).mono fun _ _ ⟨he, _q, hq⟩ => ⟨he, hq ▸ ⟨rfl, rfl, rfl, Nat.le_refl _, fun _ _ => rfl⟩⟩
theorem Rdr.of_ret {f : Nat} {args : Array Value} {v : Value} (h : Ret f args v) : Rdr f args v :=
  fun w => (h w).mono fun _ _ ⟨he, hw⟩ => ⟨he, 0, hw ▸ rfl⟩

theorem tab_all : (List.range 255).all (fun k => Gf.logN (Gf.pow 3 k) == k && Gf.logB (Gf.pow 3 k) && Gf.pow 3 k != 0 && Gf.inv (Gf.pow 3 k) == Gf.pow (Gf.inv 3) k) = true := by decide +kernel
theorem tab_at (k : Nat) (hk : k < 255) : Gf.logN (Gf.ipw 3 k) = k ∧ Gf.logB (Gf.ipw 3 k) = true ∧ Gf.ipw 3 k ≠ 0 ∧ Gf.ipw (Gf.inv 3) k = Gf.inv (Gf.ipw 3 k) := by
  have h := List.all_eq_true.1 tab_all k (List.mem_range.2 hk)
  rw [Gf.pow_ipw 3 k (by decide) (by omega), Gf.pow_ipw (Gf.inv 3) k (Gf.inv_lt 3) (by omega)] at h
  simp only [Bool.and_eq_true, beq_iff_eq, bne_iff_ne] at h
  exact ⟨h.1.1.1, h.1.1.2, h.1.2, h.2.symm⟩
theorem log_ipw (j : Nat) (hj : j < 256) (h0 : j ≠ 0) : Gf.logB j = true ∧ Gf.logN j < 255 ∧ Gf.ipw 3 (Gf.logN j) = j := by
  obtain ⟨_, h2, h3, h4⟩ := Gf.laws j hj h0
  rw [Gf.pow_ipw 3 _ (by decide) (by omega)] at h4
  exact ⟨h2, by omega, h4⟩

end Sbox
end Go.Proofs.Ytglilnlhgdhnmaa
