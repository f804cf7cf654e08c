import Derived.Test.YtfnmakelbijmkaaGreatDoorRh11
import Derived.BigQuiet
set_option maxRecDepth 100000
namespace Go.Proofs.YtfnmakelbijmkaaGreatDoor
open Go.RowKit
namespace Oid
end Oid
end Go.Proofs.YtfnmakelbijmkaaGreatDoor
