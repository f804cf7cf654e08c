import Derived.Test.YtddlaafpianjbaaGreatDoorBo14
import Derived.LaidMore
import Derived.Lib.SmallJoins
set_option maxRecDepth 100000
namespace Go.Proofs.YtddlaafpianjbaaGreatDoor
open Go.RowKit
namespace Rec
open Att
end Rec
end Go.Proofs.YtddlaafpianjbaaGreatDoor
