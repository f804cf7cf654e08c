/- Joined texts. -/
-- PACK: YtpakifiphdlkoaaDoorOid
import Derived.Test.YtpakifiphdlkoaaDoorPk1
import Derived.Test.YtpakifiphdlkoaaDoorPk10
import Derived.Test.YtpakifiphdlkoaaDoorPk7
import Derived.Laws.BitsAllLaws
import Derived.IntWalk

/- Package oid and its reference: numbers to the base 128. -/
namespace Go.Proofs.YtpakifiphdlkoaaDoor
open Go.RowKit
namespace Oid

set_option maxRecDepth 100000 in
theorem conv_any (x : Int) (S : ByteArray) (hS : strOfNums [x] = S) : ∀ (W : World) (g : Nat), W.cell? ⟨g, 0, none⟩ = some (.int .u8 x) → ∀ dst, Tryd.prog.underlying dst = some .string → (convert 33 dst (.slice (some ⟨g, 0, none⟩) 1 1)).run Tryd.prog W = .ok (.string S) W := by
  subst hS
  intro W g hc
  refine run_convert_bytes_arg (P := Tryd.prog) W 33 5 Tryd.underlying33 Tryd.underlying5 g 0 1 1 [x] rfl fun i hi => ?_
  obtain rfl : i = 0 := by omega
  exact hc
theorem i64_nat (a : Nat) (ha : a < 9223372036854775808) : (BitVec.ofInt 64 (a : Int)).toNat = a := by
  rw [BitVec.toNat_ofInt]; omega
theorem i64_and_nat (a b : Nat) (ha : a < 9223372036854775808) (hb : b < 9223372036854775808) : bits .and .i64 (a : Int) (b : Int) = ((a &&& b : Nat) : Int) := by
  have hx : a &&& b < 2 ^ 63 := Nat.and_lt_two_pow _ (by omega)
  show IntKind.i64.wrap ((BitVec.ofInt 64 (a : Int) &&& BitVec.ofInt 64 (b : Int)).toNat : Int) = _
  rw [BitVec.toNat_and, i64_nat a ha, i64_nat b hb, IntWalk.i64_in _ (by omega)]
theorem i64_or_nat (a b : Nat) (ha : a < 9223372036854775808) (hb : b < 9223372036854775808) : bits .or .i64 (a : Int) (b : Int) = ((a ||| b : Nat) : Int) := by
  have hx : a ||| b < 2 ^ 63 := Nat.or_lt_two_pow (by omega) (by omega)
  show IntKind.i64.wrap ((BitVec.ofInt 64 (a : Int) ||| BitVec.ofInt 64 (b : Int)).toNat : Int) = _
  rw [BitVec.toNat_or, i64_nat a ha, i64_nat b hb, IntWalk.i64_in _ (by omega)]
theorem i64_and127 (a : Nat) (ha : a < 9223372036854775808) : bits .and .i64 (a : Int) 127 = ((a % 128 : Nat) : Int) := by
  have h := i64_and_nat a 127 ha (by decide)
  rw [nat_mask7] at h
  exact h
theorem i64_or_low (a b : Nat) (ha : a < 72057594037927936) (hb : b < 128) : bits .or .i64 ((a * 128 : Nat) : Int) (b : Int) = ((a * 128 + b : Nat) : Int) := by
  rw [i64_or_nat _ _ (by omega) (by omega), nat_join 7 _ _ (by omega) (by omega)]
set_option maxRecDepth 100000 in
theorem or128 : ∀ n : Fin 256, bits .or .u8 ((n.1 : Nat) : Int) 128 = ((n.1 % 128 + 128 : Nat) : Int) := by decide

theorem or128_of (x y : Int) (h0 : 0 ≤ x) (hn : x < 256) (hy : y = x % 128 + 128) : bits .or .u8 x 128 = y := by
  have h := or128 ⟨x.toNat, by omega⟩
  have e : ((x.toNat : Nat) : Int) = x := by omega
  simp only [e] at h
  rw [h, hy]; omega
end Oid
end Go.Proofs.YtpakifiphdlkoaaDoor
