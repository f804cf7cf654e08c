/- Joined texts. -/
-- PACK: YtgfdomdbjiflmaaDoorRnd2
import Derived.Test.YtgfdomdbjiflmaaDoorDj29
import Derived.Test.YtgfdomdbjiflmaaDoorDj3
import Derived.Test.YtgfdomdbjiflmaaDoorDj10
import Derived.StillTailTactics

/- Package round: columns mixed. -/
namespace Go.Proofs.YtgfdomdbjiflmaaDoor
open Go.RowKit
namespace Rnd

set_option maxRecDepth 100000 in
theorem Ret.still {f : Nat} {args : Array Value} {v : Value} (h : Ret f args v) (w : World) : Calls Tryd.prog f args w fun e w' => e = .returned v ∧ w' = w := (h w).mono fun _ _ ⟨he, hw⟩ => ⟨he, hw.symm⟩
theorem mul_r (a b : Nat) (ha : a < 256) (hb : b < 256) : Ret 130 #[.int .u8 (a : Int), .int .u8 (b : Int)] (.int .u8 ((Gf.mul a b : Nat) : Int)) := fun w => by
  have h := Field.mul_any (a : Int) (b : Int) w (by omega) (by omega) (by omega) (by omega)
  simpa using h
theorem add_r (a b : Nat) (ha : a < 256) (hb : b < 256) : Ret 147 #[.int .u8 (a : Int), .int .u8 (b : Int)] (.int .u8 ((a ^^^ b : Nat) : Int)) := fun w => by
  have h := Field.add_any (a : Int) (b : Int) w (by omega) (by omega) (by omega) (by omega)
  simpa using h
/-- the sum of the first n products for byte i -/
def mixP (fac : Nat → Nat) (l : List UInt8) (i : Nat) : Nat → Nat
  | 0 => 0
  | n + 1 => mixP fac l i n ^^^ Gf.mul (ent l (4 * (i / 4) + (i % 4 + n) % 4)) (fac n)
theorem mixP_lt (fac : Nat → Nat) (l : List UInt8) (i n : Nat) : mixP fac l i n < 256 := by
  induction n with
  | zero => exact Nat.zero_lt_succ _
  | succ n ih => exact Nat.xor_lt_two_pow (n := 8) ih (Gf.mul_lt _ _ (ent_lt _ _))
def mixL (fac : Nat → Nat) (l : List UInt8) : List UInt8 := mk16 fun i => mixP fac l i 4
theorem mix_at (fac : Nat → Nat) (l : List UInt8) (r c : Nat) (hr : r < 4) (hc : c < 4) : stV (mixL fac l) (r * 4 + c) = .int .u8 ((mixP fac l (4 * c + r) 4 : Nat) : Int) := by
  rw [stV_at _ r c (4 * c + r) hr hc rfl, mixL, mk16_ent (fun i => mixP fac l i 4) (4 * c + r) (by omega) (mixP_lt _ _ _ _)]
theorem mixP_succ (fac : Nat → Nat) (l : List UInt8) (r c n q : Nat) (hr : r < 4) (_hc : c < 4) (hq : q = (r + n) % 4) : mixP fac l (4 * c + r) (n + 1) = mixP fac l (4 * c + r) n ^^^ Gf.mul (ent l (4 * c + q)) (fac n) := by
  rw [mixP, show (4 * c + r) / 4 = c from by omega, show (4 * c + r) % 4 = r from by omega, hq]
end Rnd
end Go.Proofs.YtgfdomdbjiflmaaDoor
