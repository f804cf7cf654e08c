import Derived.Test.YtcdjfmlanicjlaaGreatDoorSl10
import Derived.BigQuiet
import Derived.Test.YtcdjfmlanicjlaaGreatDoorSl3
import Derived.StillTailTactics
import Derived.Test.YtcdjfmlanicjlaaGreatDoorSl25
set_option maxRecDepth 100000
namespace Go.Proofs.YtcdjfmlanicjlaaGreatDoor
open Go.RowKit
namespace Oid
end Oid
end Go.Proofs.YtcdjfmlanicjlaaGreatDoor
set_option maxRecDepth 100000
namespace Go
end Go
set_option maxRecDepth 100000
namespace Go.Proofs.YtcdjfmlanicjlaaGreatDoor
open Go.RowKit
namespace Oid
end Oid
namespace Oid
end Oid
namespace Oid
end Oid
namespace Oid
open Dig
def unB (l:List UInt8):Bool:=decide (numS (unV l) = l)
def unN (l:List UInt8):Int:=if unB l then unV l else 0
def spl (cur:List UInt8):List UInt8 -> List (List UInt8)
 | [] => [cur]
 | c :: cs => if c = 46 then cur :: spl [] cs else spl (cur ++ [c]) cs
def pp:List (List UInt8) -> List Int -> Option (List Int)
 | [],l => some l
 | p :: ps,l => if unB p = false ∨ l.length = 20 then none else pp ps (l ++ [unN p])
def join:List (List UInt8) -> List UInt8
 | [] => []
 | p :: ps => p ++ ps.flatMap (46 :: ·)
end Oid
end Go.Proofs.YtcdjfmlanicjlaaGreatDoor
