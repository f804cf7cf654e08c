import Derived.Test.YtfnmakelbijmkaaGreatDoorRh27
import Derived.Laws.EntriesVeiled
set_option maxRecDepth 100000
namespace Go.Proofs.YtfnmakelbijmkaaGreatDoor
open Go.RowKit Go.Shelf
attribute [local go_sem] Oper.semAt_some
namespace Prn
end Prn
end Go.Proofs.YtfnmakelbijmkaaGreatDoor
