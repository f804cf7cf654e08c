import Derived.Test.YtfnmakelbijmkaaGreatDoorRh44
set_option maxRecDepth 100000
namespace Go.Proofs.YtfnmakelbijmkaaGreatDoor
namespace Tlv
open Tree
end Tlv
end Go.Proofs.YtfnmakelbijmkaaGreatDoor
