/- Joined texts. -/
-- PACK: YtglilnlhgdhnmaaField
import Derived.Test.YtglilnlhgdhnmaaRows
import Derived.WalkKit
import Derived.WalkSpells
import Derived.WalkLawsBesides
import Derived.Lib.Hide
import Derived.Test.YtglilnlhgdhnmaaSk1

/- The walks of package field. -/
namespace Go.Proofs.Ytglilnlhgdhnmaa
open Go.RowKit
namespace Field

theorem ret_int {k : IntKind} {a b : Int} (h : a = b) : Ending.returned (.int k a) = .returned (.int k b) := by rw [h]

/-- a byte fact for every byte, out of the list of all -/
theorem byte_all {p : Int → Bool} (h : (List.range 256).all (fun n => p (n : Int)) = true) (a : Int) (h0 : 0 ≤ a) (h1 : a ≤ 255) : p a = true := by
  obtain ⟨n, rfl⟩ := Int.eq_ofNat_of_zero_le h0
  exact List.all_eq_true.1 h n (List.mem_range.2 (by omega))

theorem twice_hi (a : Int) (h0 : 0 ≤ a) (h1 : a ≤ 255) (h : (bits .and .u8 a 128 != 0) = true) : bits .xor .u8 (a * 2 % 256) 27 = ((Gf.xt a.toNat : Nat) : Int) := by
  have := byte_all (p := fun a => !(bits .and .u8 a 128 != 0) || bits .xor .u8 (a * 2 % 256) 27 == ((Gf.xt a.toNat : Nat) : Int)) (by decide +kernel) a h0 h1
  simpa [h] using this
theorem twice_lo (a : Int) (h0 : 0 ≤ a) (h1 : a ≤ 255) (h : (bits .and .u8 a 128 != 0) = false) : a * 2 % 256 = ((Gf.xt a.toNat : Nat) : Int) := by
  have := byte_all (p := fun a => (bits .and .u8 a 128 != 0) || a * 2 % 256 == ((Gf.xt a.toNat : Nat) : Int)) (by decide +kernel) a h0 h1
  simpa [h] using this

theorem bit_any (b : Int) (h0 : 0 ≤ b) (h1 : b ≤ 255) (k : Nat) (hk : k < 8) : (bits .and .u8 (b / 2 ^ k) 1 != 0) = b.toNat.testBit k := by
  have := byte_all (p := fun b => (List.range 8).all fun k => (bits .and .u8 (b / 2 ^ k) 1 != 0) == b.toNat.testBit k) (by decide +kernel) b h0 h1
  simpa using List.all_eq_true.1 this k (List.mem_range.2 hk)

end Field
end Go.Proofs.Ytglilnlhgdhnmaa
