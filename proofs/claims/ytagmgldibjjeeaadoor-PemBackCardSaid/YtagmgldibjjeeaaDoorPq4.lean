import Derived.Test.YtagmgldibjjeeaaDoorPq3
import Derived.Deep.OwnRows
set_option maxRecDepth 100000
namespace Go.Proofs.YtagmgldibjjeeaaDoor
open Go.RowKit
theorem some_bytes (R:ByteArray) (h:0 < R.size):(!R.toList.isEmpty) = true:=by
 have h2:R.toList = R.data.toList:=by first | exact ByteArray.toList_eq R | exact Go.ByteArray.toList_eq R
 rw [h2]
 cases hl:R.data.toList with
 | nil =>
   have h9:R.size = R.data.toList.length:=rfl
   rw [hl,List.length_nil] at h9
   omega
 | cons x l => rfl
structure ElemIs (T E:TypeId) (z:Value) (size bytes:Nat):Prop where
 ht:Tryd.prog.underlying T = some (.slice E)
 hi:(Tryd.prog.info? E).map (fun i => (i.zero,i.size,i.bytes)) = some (some z,size,bytes)
 hz:z.cells.size = size
 hs:0 < size
theorem elem8:ElemIs 32 5 (.int .u8 0) 1 1:=⟨Tryd.underlying32,by kernel_rfl,rfl,by decide⟩
theorem conv_at (w:World) (g n cap:Nat) (cur:Array Value) (xs:List Int) (hg:w.heap[g]? = some (.cells cur 5)) (hn:xs.length = n) (ht:cur.toList.take n = xs.map (Value.int .u8)) :
   ∀ dst,Tryd.prog.underlying dst = some .string -> (convert 32 dst (.slice (some ⟨g,0,none⟩) n cap)).run Tryd.prog w = .ok (.string (strOfNums xs)) w :=
 run_convert_bytes_arg (P:=Tryd.prog) w 32 5 Tryd.underlying32 Tryd.underlying5 g 0 n cap xs hn fun i hi => by
   have h1:(cur.toList.take n)[i]? = some (.int .u8 (xs.getD i 0)):=by
     rw [ht,List.getElem?_map,List.getElem?_eq_getElem (by omega)]
     simp [List.getD,List.getElem?_eq_getElem (show i < xs.length by omega)]
   rw [List.getElem?_take_of_lt hi,Array.getElem?_toList] at h1
   simp [World.cell?,hg,h1]
theorem conv_own (w:World) (b:Nat) (v:Value) (n:Nat) (xs:List Int) (h:w.ownsRow b 5 1 v n (xs.map (Value.int .u8))) (h0:0 < n) :
   ∀ dst,Tryd.prog.underlying dst = some .string -> (convert 32 dst v).run Tryd.prog w = .ok (.string (strOfNums xs)) w:=by
 obtain ⟨h1,h2⟩:=h
 rcases h2 with ⟨rfl,hn⟩ | ⟨g,cap,cur,rfl,hb,hg,hn,hm,hsz,htk⟩
 · omega
 · rw [List.length_map] at h1
   rw [Nat.mul_one] at htk h1
   exact conv_at _ _ _ _ _ xs hg h1 htk
structure KeptBut (w w':World) (v:Value):Prop where
 size:w.heap.size <= w'.heap.size
 block:∀ b,b < w.heap.size -> some b ≠ v.ownBlock -> w'.heap[b]? = w.heap[b]?
theorem elemS:ElemIs 40 9 (.string ⟨#[]⟩) 1 16:=⟨Tryd.underlying40,by kernel_rfl,rfl,by decide⟩
end Go.Proofs.YtagmgldibjjeeaaDoor
