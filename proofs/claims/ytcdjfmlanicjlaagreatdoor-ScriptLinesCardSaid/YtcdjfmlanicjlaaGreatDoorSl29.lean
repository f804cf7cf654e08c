import Derived.Test.YtcdjfmlanicjlaaGreatDoorSl27
import Derived.Laws.EntriesVeiled
set_option maxRecDepth 100000
namespace Go.Proofs.YtcdjfmlanicjlaaGreatDoor
open Go.RowKit Go.Shelf
attribute [local go_sem] Oper.semAt_some
namespace Prn
end Prn
end Go.Proofs.YtcdjfmlanicjlaaGreatDoor
