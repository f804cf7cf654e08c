/- Joined texts. -/
-- PACK: YtddlaafpianjbaaGreatDoorRnd2
import Derived.Test.YtddlaafpianjbaaGreatDoorBb8
import Derived.Test.YtddlaafpianjbaaGreatDoorBb3
import Derived.Test.YtddlaafpianjbaaGreatDoorBb7
import Derived.StillTailTactics

/- Package round: columns mixed. -/
namespace Go.Proofs.YtddlaafpianjbaaGreatDoor
open Go.RowKit
namespace Rnd

set_option maxRecDepth 100000 in
theorem Ret.still {f : Nat} {args : Array Value} {v : Value} (h : Ret f args v) (w : World) : Calls Tryz.prog f args w fun e w' => e = .returned v ∧ w' = w := (h w).mono fun _ _ ⟨he, hw⟩ => ⟨he, hw.symm⟩
/-- the sum of the first n products for byte i -/
def mixP (fac : Nat → Nat) (l : List UInt8) (i : Nat) : Nat → Nat
  | 0 => 0
  | n + 1 => mixP fac l i n ^^^ Gf.mul (ent l (4 * (i / 4) + (i % 4 + n) % 4)) (fac n)
theorem mixP_lt (fac : Nat → Nat) (l : List UInt8) (i n : Nat) : mixP fac l i n < 256 := by
  induction n with
  | zero => exact Nat.zero_lt_succ _
  | succ n ih => exact Nat.xor_lt_two_pow (n := 8) ih (Gf.mul_lt _ _ (ent_lt _ _))
def mixL (fac : Nat → Nat) (l : List UInt8) : List UInt8 := mk16 fun i => mixP fac l i 4
end Rnd
end Go.Proofs.YtddlaafpianjbaaGreatDoor
