import Derived.Test.YtcdjfmlanicjlaaGreatDoorSl20
import Derived.Test.YtcdjfmlanicjlaaGreatDoorSl24
import Derived.Laws.AppendOwnNone
set_option maxRecDepth 100000
namespace Go.Proofs.YtcdjfmlanicjlaaGreatDoor
open Go.RowKit
namespace Setof
def dl (s:ByteArray):List UInt8:=s.data.toList
def lt2 (l:List ByteArray) (i j:Nat):Bool:=match l[i]?,l[j]? with | some a,some b => ltB (dl a) (dl b) | _,_ => false
def bestN (l:List ByteArray):Nat -> Nat
 | 0 => 0
 | 1 => 0
 | k+2 => if lt2 l (k + 1) (bestN l (k + 1)) then k + 1 else bestN l (k + 1)
structure SInv (l L O:List ByteArray):Prop where
 perm:(O ++ L).Perm l
 ord:(O.map dl).Pairwise up
 le:∀ x ∈ O,∀ y ∈ L,up (dl x) (dl y)
end Setof
end Go.Proofs.YtcdjfmlanicjlaaGreatDoor
