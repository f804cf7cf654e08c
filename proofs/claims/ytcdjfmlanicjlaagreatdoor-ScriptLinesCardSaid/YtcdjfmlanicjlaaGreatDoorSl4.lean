import Derived.Test.YtcdjfmlanicjlaaGreatDoorSl3
import Derived.Deep.OwnRows
set_option maxRecDepth 100000
namespace Go.Proofs.YtcdjfmlanicjlaaGreatDoor
open Go.RowKit
theorem some_bytes (R:ByteArray) (h:0 < R.size):(!R.toList.isEmpty) = true:=by
 have h2:R.toList = R.data.toList:=by first | exact ByteArray.toList_eq R | exact Go.ByteArray.toList_eq R
 rw [h2]
 cases hl:R.data.toList with
 | nil =>
   have h9:R.size = R.data.toList.length:=rfl
   rw [hl,List.length_nil] at h9
   omega
 | cons x l => rfl
structure ElemIs (T E:TypeId) (z:Value) (size bytes:Nat):Prop where
 ht:Tryz.prog.underlying T = some (.slice E)
 hi:(Tryz.prog.info? E).map (fun i => (i.zero,i.size,i.bytes)) = some (some z,size,bytes)
 hz:z.cells.size = size
 hs:0 < size
structure KeptBut (w w':World) (v:Value):Prop where
 size:w.heap.size <= w'.heap.size
 block:∀ b,b < w.heap.size -> some b ≠ v.ownBlock -> w'.heap[b]? = w.heap[b]?
theorem elemS:ElemIs 47 9 (.string ⟨#[]⟩) 1 16:=⟨Tryz.underlying47,by kernel_rfl,rfl,by decide⟩
def Strs (w:World) (base:Nat) (v:Value) (ss:List ByteArray):Prop:=w.ownsRow base 9 1 v ss.length (ss.map Value.string)
end Go.Proofs.YtcdjfmlanicjlaaGreatDoor
