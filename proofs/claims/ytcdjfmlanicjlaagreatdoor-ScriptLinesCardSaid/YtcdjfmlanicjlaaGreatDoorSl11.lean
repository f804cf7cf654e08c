import Derived.Test.YtcdjfmlanicjlaaGreatDoorSl4
import Derived.Deep.RegionWith
import Derived.BigQuiet
set_option maxRecDepth 100000
namespace Go.Proofs.YtcdjfmlanicjlaaGreatDoor
open Go.RowKit
namespace Head
end Head
end Go.Proofs.YtcdjfmlanicjlaaGreatDoor
set_option maxRecDepth 100000
namespace Go.Proofs.YtcdjfmlanicjlaaGreatDoor
open Go.RowKit
namespace Head
end Head
namespace Head
def hdV (c t:Nat) (b:Bool) (n:Nat):Value:=.agg #[.int .i64 (c:Int),.int .i64 (t:Int),.bool b,.int .i64 (n:Int)]
end Head
namespace Head
end Head
namespace Head
end Head
namespace Head
end Head
namespace Head
end Head
namespace Head
end Head
namespace Head
def decV (d:Hd × Nat × Nat):Value:=.tuple #[hdV d.1.c d.1.t d.1.b d.1.n,.int .i64 (d.2.1:Int),.int .i64 (d.2.2:Int)]
end Head
end Go.Proofs.YtcdjfmlanicjlaaGreatDoor
