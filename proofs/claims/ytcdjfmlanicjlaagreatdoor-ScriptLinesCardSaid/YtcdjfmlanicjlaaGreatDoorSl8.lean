import Derived.Test.YtcdjfmlanicjlaaGreatDoorSl4
import Derived.Laws.CopyOwn
set_option maxRecDepth 100000
namespace Go.Proofs.YtcdjfmlanicjlaaGreatDoor
open Go.RowKit
namespace Utf
def ent (l:List UInt8) (i:Nat):Nat:=(l.getD i 0).toNat
def cont (x:Nat):Prop:=128 <= x /\ x <= 191
instance (x:Nat):Decidable (cont x):=by unfold cont; infer_instance
def fold (l:List UInt8) (n:Nat):Nat -> Nat
 | 0 => n
 | k + 1 => 64 * fold l n k + (ent l (k + 1) - 128)
def ptG (l:List UInt8) (n more least:Nat):Nat :=
 if l.length <= more then 0 else if ¬ (∀ i,i < more -> cont (ent l (i + 1))) then 0
 else if fold l n more < least ∨ 1114111 < fold l n more ∨ 55295 < fold l n more /\ fold l n more < 57344 then 0 else more + 1
def ptL (l:List UInt8):Nat :=
 if ent l 0 < 128 then 1
 else if 192 <= ent l 0 /\ ent l 0 < 224 then ptG l (ent l 0 - 192) 1 128
 else if 224 <= ent l 0 /\ ent l 0 < 240 then ptG l (ent l 0 - 224) 2 2048
 else if 240 <= ent l 0 /\ ent l 0 < 248 then ptG l (ent l 0 - 240) 3 65536
 else 0
def utfF:Nat -> List UInt8 -> Bool
 | _,[] => true
 | 0,_ => false
 | f + 1,l => ptL l != 0 && utfF f (l.drop (ptL l))
def utfB (l:List UInt8):Bool:=utfF l.length l
end Utf
end Go.Proofs.YtcdjfmlanicjlaaGreatDoor
