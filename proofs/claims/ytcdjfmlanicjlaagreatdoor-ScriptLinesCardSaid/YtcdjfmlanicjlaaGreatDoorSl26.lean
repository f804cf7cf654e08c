import Derived.Test.YtcdjfmlanicjlaaGreatDoorSl25
set_option maxRecDepth 100000
namespace Go.Proofs.YtcdjfmlanicjlaaGreatDoor
open Go.RowKit
namespace RefHead
open Head
end RefHead
namespace RefHead
open Head
end RefHead
end Go.Proofs.YtcdjfmlanicjlaaGreatDoor
