import Derived.Test.YtfnmakelbijmkaaGreatDoorRh4
import Derived.Laws.CopyOwn
import Derived.Lib.SlBuf
set_option maxRecDepth 100000
namespace Go.Proofs.YtfnmakelbijmkaaGreatDoor
open Go.RowKit
end Go.Proofs.YtfnmakelbijmkaaGreatDoor
