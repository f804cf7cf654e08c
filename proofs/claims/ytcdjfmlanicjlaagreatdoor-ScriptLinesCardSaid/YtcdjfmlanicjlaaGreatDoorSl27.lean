import Derived.RangeFuncNested
import Derived.RangeFuncBound
import Derived.Shelf.RegionOpen
import Derived.OwnWalkIn
import Derived.LoopNIn
import Derived.LoopIn
import Derived.Test.YtcdjfmlanicjlaaGreatDoorSl7
set_option maxRecDepth 100000
namespace Go.Proofs.YtcdjfmlanicjlaaGreatDoor
open Go.RowKit Go.Shelf
attribute [local go_sem] Oper.semAt_some
namespace Prn
abbrev Rn:={ x:Nat // x <= 2147483647 }
def rsF (c:ByteArray):Nat -> Nat -> List Rn
 | 0,_ => []
 | f + 1,p => if p < c.size then ⟨(Utf8.decode c p).1,decode_le c p⟩ :: rsF c f (p + (Utf8.decode c p).2) else []
def okN (n:Nat):Bool:=allB.any (fun c => c.toNat == n)
end Prn
end Go.Proofs.YtcdjfmlanicjlaaGreatDoor
namespace Go.Proofs.YtcdjfmlanicjlaaGreatDoor
open Go.RowKit Go.Shelf
attribute [local go_sem] Oper.semAt_some
namespace Prn
end Prn
end Go.Proofs.YtcdjfmlanicjlaaGreatDoor
