import Derived.Test.YtcdjfmlanicjlaaGreatDoorSl23
import Derived.BigQuiet
import Derived.BigGuardPart
import Derived.Test.YtcdjfmlanicjlaaGreatDoorSl7
import Derived.Deep.RegionHeld3
import Derived.StillTailTactics
import Derived.Deep.AppendLies
import Derived.Deep.WholeRow
set_option maxRecDepth 100000
namespace Go.Proofs.YtcdjfmlanicjlaaGreatDoor
open Go.RowKit
namespace Oct
end Oct
end Go.Proofs.YtcdjfmlanicjlaaGreatDoor
set_option maxRecDepth 100000
namespace Go.Proofs.YtcdjfmlanicjlaaGreatDoor
open Go.RowKit
namespace Strs
open Oct
def lastN (s:ByteArray):Nat:=(s.data.toList.getLastD 0).toNat
def BitsOk (s:ByteArray) (u:Int):Prop:=0 <= u /\ u <= 7 /\ (s.size = 0 -> u = 0) /\ (0 < s.size -> lastN s % 2 ^ u.toNat = 0)
instance (s:ByteArray) (u:Int):Decidable (BitsOk s u):=by unfold BitsOk; infer_instance
def sYes:ByteArray:=⟨#[255]⟩
def sNo:ByteArray:=⟨#[0]⟩
def restS (c:ByteArray):ByteArray:=c.extract 1 c.size
def headN (c:ByteArray):Nat:=(c.data.toList.headD 0).toNat
def UnbOk (c:ByteArray):Prop:=0 < c.size /\ BitsOk (restS c) (headN c:Int)
instance (c:ByteArray):Decidable (UnbOk c):=by unfold UnbOk; infer_instance
end Strs
namespace RefStrs
open Oct Strs
end RefStrs
end Go.Proofs.YtcdjfmlanicjlaaGreatDoor
