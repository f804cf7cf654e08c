/- Joined texts. -/
-- PACK: YtddlaafpianjbaaDoorRefDig
import Derived.Test.YtddlaafpianjbaaDoorUs3
import Derived.Test.YtddlaafpianjbaaDoorUs2
import Derived.Laws.BytesArg
import Derived.Deep.QuietTactic
import Derived.BigQuiet
import Derived.Deep.OwnRows
import Derived.Deep.Draws

/- The walks of the reference of package digits: Value and Unhex. -/
namespace Go.Proofs.YtddlaafpianjbaaDoor
open Go.RowKit
namespace RefDig

theorem sign_cut (d : Nat) (h : d < 16) : (⟨#[48, 49, 50, 51, 52, 53, 54, 55, 56, 57, 65, 66, 67, 68, 69, 70]⟩ : ByteArray).extract d (d + 1) = bs [Dig.sign d] := by
  rcases (show d = 0 ∨ d = 1 ∨ d = 2 ∨ d = 3 ∨ d = 4 ∨ d = 5 ∨ d = 6 ∨ d = 7 ∨ d = 8 ∨ d = 9 ∨ d = 10 ∨ d = 11 ∨ d = 12 ∨ d = 13 ∨ d = 14 ∨ d = 15 by omega) with rfl | rfl | rfl | rfl | rfl | rfl | rfl | rfl | rfl | rfl | rfl | rfl | rfl | rfl | rfl | rfl <;> rfl
theorem hex_snoc (l : List UInt8) (c : UInt8) : Dig.hexL (l ++ [c]) = Dig.hexL l ++ [Dig.sign (c.toNat / 16), Dig.sign (c.toNat % 16)] := by
  unfold Dig.hexL; rw [List.flatMap_append]; rfl

end RefDig
end Go.Proofs.YtddlaafpianjbaaDoor
