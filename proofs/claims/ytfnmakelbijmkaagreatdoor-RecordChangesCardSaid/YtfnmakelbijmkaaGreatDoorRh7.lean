import Derived.Test.YtfnmakelbijmkaaGreatDoorRh5
import Derived.Deep.RegionWith
set_option maxRecDepth 100000
namespace Go.Proofs.YtfnmakelbijmkaaGreatDoor
open Go.RowKit
namespace Head
end Head
end Go.Proofs.YtfnmakelbijmkaaGreatDoor
