import Derived.Shelf.RegionOpen
import Derived.OwnWalkIn
import Derived.LoopNIn
import Derived.LoopIn
import Derived.Test.YtcdjfmlanicjlaaGreatDoorSl31
import Derived.Test.YtcdjfmlanicjlaaGreatDoorSl1
import Derived.Test.YtcdjfmlanicjlaaGreatDoorSl15
set_option maxRecDepth 100000
namespace Go.Proofs.YtcdjfmlanicjlaaGreatDoor
open Go.RowKit Go.Shelf
attribute [local go_sem] Oper.semAt_some
namespace Oid
abbrev A31:={ x:Int // -1 <= x /\ x <= 2147483647 }
def bad31:A31:=⟨-1,by decide⟩
def ns:List UInt8 -> Nat -> Bool -> List A31
 | [],_,b => if b then [bad31] else []
 | c :: cs,n,b =>
   if h:(b = false /\ c.toNat = 128) ∨ 16777215 < n then [bad31]
   else if 128 <= c.toNat then ns cs (n * 128 + c.toNat % 128) true
   else ⟨((n * 128 + c.toNat % 128:Nat):Int),by have:=(not_or.1 h).2; omega⟩ :: ns cs 0 false
def cons:List A31 -> List Int -> Option (List Int)
 | [],l => some l
 | x :: xs,l => if x.1 < 0 ∨ l.length = 20 then none else cons xs (push l x.1.toNat)
end Oid
end Go.Proofs.YtcdjfmlanicjlaaGreatDoor
namespace Go.Proofs.YtcdjfmlanicjlaaGreatDoor
open Go.RowKit Go.Shelf
attribute [local go_sem] Oper.semAt_some
namespace Oid
end Oid
end Go.Proofs.YtcdjfmlanicjlaaGreatDoor
namespace Go.Proofs.YtcdjfmlanicjlaaGreatDoor
open Go.RowKit Go.Shelf
attribute [local go_sem] Oper.semAt_some
namespace Oid
abbrev AP:={ s:ByteArray // s.size <= 1000000 }
end Oid
end Go.Proofs.YtcdjfmlanicjlaaGreatDoor
namespace Go.Proofs.YtcdjfmlanicjlaaGreatDoor
open Go.RowKit Go.Shelf
attribute [local go_sem] Oper.semAt_some
namespace Oid
def pc (pre:List AP):Option (List Int):=pp (pre.map fun x => x.1.data.toList) []
end Oid
end Go.Proofs.YtcdjfmlanicjlaaGreatDoor
namespace Go.Proofs.YtcdjfmlanicjlaaGreatDoor
open Go.RowKit
namespace Oid
end Oid
end Go.Proofs.YtcdjfmlanicjlaaGreatDoor
