/- Joined texts. -/
-- PACK: YtgfdomdbjiflmaaDoorAes4
import Derived.Test.YtgfdomdbjiflmaaDoorDj35

/- Package aes: a round undone. -/
namespace Go.Proofs.YtgfdomdbjiflmaaDoor
open Go.RowKit
namespace Aes
open Rnd

theorem back_ent (l : List UInt8) (i : Nat) (hi : i < l.length) : ent (backL l) i = Sbox.back (ent l i) := by
  unfold ent backL
  simp [List.getD, hi]
  have := Sbox.back_lt (l[i].toNat)
  omega
theorem ub_ent (Y : List UInt8) (i : Nat) (hi : i < 16) : ent (backL (unshiftL Y)) (5 * i % 16) = Sbox.back (ent Y i) := by
  rw [back_ent _ _ (by rw [unshiftL_len]; omega), unshift_ent _ _ (by omega)]
  congr 2
  omega
theorem unmix_sum (A : List UInt8) (i : Nat) : mixP unmixF A i 4 = ((Gf.mul (ent A (4 * (i / 4) + (i % 4 + 0) % 4)) 14 ^^^ Gf.mul (ent A (4 * (i / 4) + (i % 4 + 1) % 4)) 11) ^^^ Gf.mul (ent A (4 * (i / 4) + (i % 4 + 2) % 4)) 13) ^^^ Gf.mul (ent A (4 * (i / 4) + (i % 4 + 3) % 4)) 9 := by
  rw [mixP4]; rfl
end Aes
end Go.Proofs.YtgfdomdbjiflmaaDoor
