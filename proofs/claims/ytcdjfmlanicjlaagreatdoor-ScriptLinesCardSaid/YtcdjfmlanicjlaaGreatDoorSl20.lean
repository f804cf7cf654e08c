import Derived.Test.YtcdjfmlanicjlaaGreatDoorSl13
import Derived.BigQuiet
import Derived.Sort.Walk0
set_option maxRecDepth 100000
namespace Go.Proofs.YtcdjfmlanicjlaaGreatDoor
open Go.RowKit
namespace Setof
def riN (l:List ByteArray):Nat -> Bool
 | 0 => true
 | 1 => true
 | k+2 => riN l (k + 1) && (match l[k]?,l[k+1]? with | some a,some b => ltB a.data.toList b.data.toList | _,_ => true)
def risesB (l:List ByteArray):Bool:=riN l l.length
theorem strs_cells {w:World} {v:Value} {l:List ByteArray} (h:StrsS w v l) (hn:0 < l.length) :
   ∃ b o c,v = .slice (some ⟨b,o,none⟩) l.length c /\ l.length <= c /\ c <= maxLen /\ b < w.heap.size /\ ∀ i s,l[i]? = some s -> w.cell? ⟨b,o + i,none⟩ = some (.string s):=by
 obtain ⟨b,o,c,hv,h1,h2,h3,h4⟩:=SlR.form h hn
 exact ⟨b,o,c,hv,h1,h2,h3,fun i s hs => h4 i _ (by rw [List.getElem?_map,hs]; rfl)⟩
end Setof
namespace Setof
end Setof
end Go.Proofs.YtcdjfmlanicjlaaGreatDoor
