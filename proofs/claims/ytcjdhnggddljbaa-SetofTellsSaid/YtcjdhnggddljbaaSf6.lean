/- Joined texts. -/
-- PACK: YtcjdhnggddljbaaMem YtcjdhnggddljbaaJoin YtcjdhnggddljbaaRow
import Derived.Test.YtcjdhnggddljbaaSf2
import Derived.Deep.OwnRows
import Derived.Deep.Draws
import Derived.Laws.CopyRow
import Derived.Laws.CopyOwn
import Derived.Lib.SlBuf
import Derived.Test.YtcjdhnggddljbaaSf1
import Derived.Test.YtcjdhnggddljbaaRows
import Derived.WalkKit
import Derived.WalkSpells
import Derived.WalkLawsBesides
import Derived.Lib.Hide
import Derived.Laws.BytesArg

/- Memory that a call makes itself: a string copied into a row. -/
namespace Go.Proofs.Ytcjdhnggddljbaa
open Go.RowKit

set_option maxRecDepth 100000 in
theorem info5 : (Try.prog.info? 5).map (fun i => (i.zero, i.size, i.bytes)) = some (some (Value.int IntKind.u8 0), 1, 1) := by kernel_rfl

/-- what a row of bytes holds where the bytes l were put at place off -/
def putAt (f : Nat → Value) (off : Nat) (l : List UInt8) : Nat → Value := fun j => if off ≤ j ∧ j < off + l.length then .int .u8 ((l.getD (j - off) 0).toNat : Int) else f j

end Go.Proofs.Ytcjdhnggddljbaa

/- octets.Join: the texts one behind the other. -/
namespace Go.Proofs.Ytcjdhnggddljbaa
open Go.RowKit
namespace Oct

def cat (ss : List ByteArray) : List UInt8 := (ss.map fun s => s.data.toList).flatten
theorem cat_snoc (ss : List ByteArray) (s : ByteArray) : cat (ss ++ [s]) = cat ss ++ s.data.toList := by simp [cat]
theorem cat_take (ss : List ByteArray) (k : Nat) (h : k < ss.length) : cat (ss.take (k + 1)) = cat (ss.take k) ++ ss[k].data.toList := by
  rw [List.take_succ_eq_append_getElem h, cat_snoc]
theorem cat_len (ss : List ByteArray) (k : Nat) : (cat (ss.take k)).length ≤ (cat ss).length := by
  have h : cat ss = cat (ss.take k) ++ cat (ss.drop k) := by
    unfold cat; rw [← List.flatten_append, ← List.map_append, List.take_append_drop]
  rw [h]; simp
def rowF (l : List UInt8) (j : Nat) : Value := if j < l.length then .int .u8 ((l.getD j 0).toNat : Int) else .int .u8 0
theorem rowF_put (l m : List UInt8) (j : Nat) : putAt (rowF l) l.length m j = rowF (l ++ m) j := by
  unfold putAt rowF
  by_cases h1 : j < l.length
  · rw [if_neg (by omega), if_pos h1, if_pos (by simp; omega)]
    simp [List.getD, List.getElem?_append_left h1]
  · by_cases h2 : j < l.length + m.length
    · rw [if_pos (by omega), if_pos (by simpa using h2)]
      simp [List.getD, List.getElem?_append_right (show l.length ≤ j by omega)]
    · rw [if_neg (by omega), if_neg h1, if_neg (by simpa using h2)]

end Oct
end Go.Proofs.Ytcjdhnggddljbaa

/- A row of bytes that the call made: made, and read as a string. -/
namespace Go.Proofs.Ytcjdhnggddljbaa
open Go.RowKit
namespace Oct
theorem made_row (N : Nat) (w : World) : (w.alloc (.cells (madeCells #[.int .u8 0] N) 5)).rowIs w.heap.size 5 N (rowF []) :=
  (World.rowIs_made w (.int .u8 0) N 5).congr fun j _ => by simp [rowF]
end Oct
end Go.Proofs.Ytcjdhnggddljbaa
