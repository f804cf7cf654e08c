/- The walks of the reference of package octets. -/
import Derived.Test.YtoblmddnefmpoaaBase
import Derived.Test.YtoblmddnefmpoaaStr
import Derived.Test.YtoblmddnefmpoaaOct
namespace Go.Proofs.Ytoblmddnefmpoaa
open Go.RowKit
namespace RefOct


/-- the last k bytes of a number, the most significant first -/
def low (n : Int) : Nat → List UInt8
  | 0 => []
  | k+1 => UInt8.ofNat (n / 2 ^ (8 * k) % 256).toNat :: low n k

theorem low_len (n : Int) (k : Nat) : (low n k).length = k := by
  induction k with
  | zero => rfl
  | succ k ih => simp [low, ih]


theorem low_get (n : Int) (k i : Nat) (h : i < k) : (low n k)[i]? = some (UInt8.ofNat (n / 2 ^ (8 * (k - 1 - i)) % 256).toNat) := by
  induction k generalizing i with
  | zero => omega
  | succ k ih =>
    cases i with
    | zero => rfl
    | succ i => show (low n k)[i]? = _; rw [ih i (by omega), show k + 1 - 1 - (i + 1) = k - 1 - i from by omega]
/-- both ways give the same bytes -/
theorem put_same (n : Int) (k : Nat) (h : k ≤ 8) : strOfNums (Oct.putL n k) = bs (low n k) := by
  apply ba_ext
  rw [nums_list, list_bs]
  apply List.ext_getElem?
  intro i
  by_cases hi : i < k
  · rw [low_get n k i hi]
    simp [Oct.putL, hi]
    rw [show 7 - (8 - k + i) = k - 1 - i from by omega]
  · rw [List.getElem?_eq_none (by simp [Oct.putL]; omega), List.getElem?_eq_none (by rw [low_len]; omega)]

end RefOct
end Go.Proofs.Ytoblmddnefmpoaa
