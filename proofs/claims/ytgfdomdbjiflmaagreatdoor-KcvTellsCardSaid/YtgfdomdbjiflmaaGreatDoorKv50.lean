/- Joined texts. -/
-- PACK: YtgfdomdbjiflmaaGreatDoorEqS
import Derived.Test.YtgfdomdbjiflmaaGreatDoorKv48
import Derived.Test.YtgfdomdbjiflmaaGreatDoorKv35

/- slices.Equal of strings. -/
namespace Go.Proofs.YtgfdomdbjiflmaaGreatDoor
open Go.RowKit
namespace Kcv
end Kcv
end Go.Proofs.YtgfdomdbjiflmaaGreatDoor
