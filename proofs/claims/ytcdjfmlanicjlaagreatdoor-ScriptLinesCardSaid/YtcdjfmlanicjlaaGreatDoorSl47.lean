import Derived.Test.YtcdjfmlanicjlaaGreatDoorSl44
import Derived.Test.YtcdjfmlanicjlaaGreatDoorSl35
set_option maxRecDepth 100000
namespace Go.Proofs.YtcdjfmlanicjlaaGreatDoor
namespace Tlv
open Tree
end Tlv
end Go.Proofs.YtcdjfmlanicjlaaGreatDoor
set_option maxRecDepth 100000
namespace Go.Proofs.YtcdjfmlanicjlaaGreatDoor
namespace Atm
open Tlv Tree Strs Att Setof
def encA (p:A2):ByteArray:=bs (attF p).enc
open Classical in
noncomputable def decV (s:ByteArray):A2 × Int:=if h:∃ p,Ok1 p /\ encA p = s then (Classical.choose h,0) else ((0,⟨#[]⟩),5)
def pcsA (s:ByteArray):List ByteArray:=(pcsV s).2.2
noncomputable def decL (s:ByteArray):List A2:=(pcsA s).map fun x => (decV x).1
noncomputable def unpV (s:ByteArray):List A2 × Int :=
 if (pcsV s).1 ≠ 0 ∨ risesB (pcsA s) = false ∨ (pcsA s).any (fun x => decide ((decV x).2 ≠ 0)) = true then ([],5) else
 if unpB (decL s) = true then (fldA (decL s),0) else ([],11)
end Atm
end Go.Proofs.YtcdjfmlanicjlaaGreatDoor
