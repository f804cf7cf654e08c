import Derived.Test.YtcdjfmlanicjlaaGreatDoorSl23
import Derived.Test.YtcdjfmlanicjlaaGreatDoorSl10
set_option maxRecDepth 100000
namespace Go.Proofs.YtcdjfmlanicjlaaGreatDoor
open Go.RowKit
namespace Span
open Flt
def MayD (a b:Int):Prop:=0 <= a /\ a <= b /\ b <= 65552
instance (a b:Int):Decidable (MayD a b):=by unfold MayD; infer_instance
def Sp (a b:Nat):Prop:=a <= b /\ b <= 65552
instance (a b:Nat):Decidable (Sp a b):=by unfold Sp; infer_instance
def cx (a b:Nat):Value:=.complex .f64 (fl (a:Int)) (fl (b:Int))
def total:List (Nat × Nat) -> Nat
 | [] => 0
 | p :: l => (p.2 - p.1) + total l
def SpansS (w:World) (v:Value) (l:List (Nat × Nat)):Prop:=SlR w 1 v l.length (l.map fun p => cx p.1 p.2)
end Span
end Go.Proofs.YtcdjfmlanicjlaaGreatDoor
