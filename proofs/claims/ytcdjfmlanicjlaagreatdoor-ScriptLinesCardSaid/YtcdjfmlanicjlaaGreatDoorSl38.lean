import Derived.Test.YtcdjfmlanicjlaaGreatDoorSl32
import Derived.Test.YtcdjfmlanicjlaaGreatDoorSl24
import Derived.Test.YtcdjfmlanicjlaaGreatDoorSl29
import Derived.Test.YtcdjfmlanicjlaaGreatDoorSl37
set_option maxRecDepth 100000
namespace Go.Proofs.YtcdjfmlanicjlaaGreatDoor
open Go.RowKit
namespace Strs
open Oct Utf Prn
def tags:List Int:=[1,2,3,4,5,6,12,19]
def rightB (tag:Int) (c:ByteArray):Bool :=
 if tag = 1 then decide (c = sYes ∨ c = sNo) else if tag = 2 then Whole.rightL c.data.toList else if tag = 3 then decide (UnbOk c) else if tag = 4 then true
 else if tag = 5 then decide (c = ⟨#[]⟩) else if tag = 6 then Oid.decB c.data.toList else if tag = 12 then utfB c.data.toList else if tag = 19 then prnB c.data.toList else false
end Strs
end Go.Proofs.YtcdjfmlanicjlaaGreatDoor
