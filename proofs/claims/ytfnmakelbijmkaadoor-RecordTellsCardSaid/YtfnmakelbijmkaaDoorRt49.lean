import Derived.Test.YtfnmakelbijmkaaDoorRt47
import Derived.Test.YtfnmakelbijmkaaDoorRt46
import Derived.Test.YtfnmakelbijmkaaDoorRt3
set_option maxRecDepth 100000
namespace Go.Proofs.YtfnmakelbijmkaaDoor
open Go.RowKit
namespace Atf
open Att Rw Atm Tlv Setof
def SRow (w wr:World) (V:Value) (l:List ByteArray):Prop:=Rw.Rows wr w.heap.size (([]:List Row) ++ ⟨9,1,V,l.length,l.map Value.string⟩ :: [])
theorem SRow.nil (w wr:World):SRow w wr (.slice none 0 0) []:=⟨fun r hr => by rw [List.mem_singleton.1 hr]; exact World.ownsRow_nil _ _ _ _,by simp⟩
theorem SRow.val {w wr:World} {V:Value} {l:List ByteArray} (h:SRow w wr V l):∃ A c,V = .slice A l.length c /\ l.length <= c:=own_slice h.get
theorem SRow.strs {w wr:World} {V:Value} {l:List ByteArray} (h:SRow w wr V l):StrsS wr V l:=SlR.own h.get
theorem SRow.app {w wr:World} {V:Value} {l:List ByteArray} (s:ByteArray) (h:Rw.Rows wr w.heap.size (([]:List Row) ++ ⟨9,1,V,l.length + 1,l.map Value.string ++ (#[.string s]:Array Value).toList⟩ :: [])):SRow w wr V (l ++ [s]):=by
 unfold SRow
 rw [List.length_append,List.map_append]
 exact h
theorem s_one (s:ByteArray):∀ u ∈ (#[.string s]:Array Value).toList,u.oneCell' = true:=by
 intro u hu
 simp only [List.mem_cons,List.not_mem_nil,or_false] at hu
 subst hu
 rfl
end Atf
end Go.Proofs.YtfnmakelbijmkaaDoor
