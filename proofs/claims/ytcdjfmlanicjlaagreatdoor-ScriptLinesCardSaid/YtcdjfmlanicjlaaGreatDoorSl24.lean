import Derived.Test.YtcdjfmlanicjlaaGreatDoorSl23
set_option maxRecDepth 100000
namespace Go.Proofs.YtcdjfmlanicjlaaGreatDoor
open Go.RowKit
namespace RefUtf
open Utf
end RefUtf
namespace Whole
open RefOct (low)
open Oct (numN trimL)
def rightL:List UInt8 -> Bool
 | [] => false
 | [_] => true
 | a :: b :: _ => !(decide (a.toNat = 0) && decide (b.toNat < 128)) && !(decide (a.toNat = 255) && decide (128 <= b.toNat))
def sg (l:List UInt8) (k:Nat):Int:=(numN (l.take k):Int) - if 128 <= (l.getD 0 0).toNat then 256 ^ k else 0
def sgn (l:List UInt8):Int:=sg l l.length
end Whole
namespace Whole
def decB (l:List UInt8):Bool:=rightL l && decide (l.length <= 8)
def decV (l:List UInt8):Int:=if decB l = true then sgn l else 0
end Whole
namespace Oct
end Oct
structure Cel (w:World) (b n:Nat) (f:Nat -> Value):Prop where
 lt:b < w.heap.size
 cell:∀ i,i < n -> w.cell? ⟨b,i,none⟩ = some (f i)
 free:∀ i,i < n -> w.frozen? ⟨b,i,none⟩ = false
def Apart (a b:Value):Prop:=∀ g,a.ownBlock = some g -> b.ownBlock ≠ some g
end Go.Proofs.YtcdjfmlanicjlaaGreatDoor
