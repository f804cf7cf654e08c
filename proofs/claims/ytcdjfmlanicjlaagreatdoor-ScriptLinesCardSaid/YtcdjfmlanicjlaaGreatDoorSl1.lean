import Derived.RangeFuncNested
import Derived.RangeFuncBound
import Derived.Test.YtcdjfmlanicjlaaGreatDoorRows
set_option maxRecDepth 100000
namespace Go.Proofs.YtcdjfmlanicjlaaGreatDoor
open Go.RowKit
inductive Stp (Bn:Nat) (X:World):World -> Prop where
 | more (Y:World) (h:X.grownBy Y none):Stp Bn X Y
 | own (v:Value):Stp Bn X (X.setCell ⟨Bn,0,none⟩ v)
structure Abide {β:Type} (B Bn:Nat) (I:β -> World -> Prop):Prop where
 turn:OwnFrom B I
 set:∀ s X v,I s X -> I s (X.setCell ⟨Bn,0,none⟩ v)
end Go.Proofs.YtcdjfmlanicjlaaGreatDoor
