import Derived.Test.YtcdjfmlanicjlaaGreatDoorSl16
import Derived.Test.YtcdjfmlanicjlaaGreatDoorSl33
set_option maxRecDepth 100000
namespace Go.Proofs.YtcdjfmlanicjlaaGreatDoor
open Go.RowKit
namespace Rec
open Att
end Rec
namespace Atf
open Att
def KN (g:Nat) (t:Int) (w:World):Prop:=w.cell? ⟨g,0,none⟩ = some (.int .i64 t) /\ g < w.heap.size
instance (g:Nat) (t:Int):Kp (KN g t):=⟨fun h hb => ⟨(hb.cell (p:=⟨g,0,none⟩) h.2).trans h.1,Nat.lt_of_lt_of_le h.2 hb.size⟩⟩
end Atf
namespace Atf
open Att
end Atf
end Go.Proofs.YtcdjfmlanicjlaaGreatDoor
