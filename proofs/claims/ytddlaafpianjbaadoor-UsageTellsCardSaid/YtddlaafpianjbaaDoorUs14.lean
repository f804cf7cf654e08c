/- Joined texts. -/
-- PACK: YtddlaafpianjbaaDoorMem
import Derived.Test.YtddlaafpianjbaaDoorUs3
import Derived.Deep.OwnRows
import Derived.Deep.Draws
import Derived.Laws.CopyRow
import Derived.Laws.CopyOwn
import Derived.Lib.SlBuf
import Derived.Test.YtddlaafpianjbaaDoorUs2

/- Memory that a call makes itself: a string copied into a row. -/
namespace Go.Proofs.YtddlaafpianjbaaDoor
open Go.RowKit

set_option maxRecDepth 100000 in
theorem info5 : (Tryd.prog.info? 5).map (fun i => (i.zero, i.size, i.bytes)) = some (some (Value.int IntKind.u8 0), 1, 1) := by kernel_rfl

/-- what a row of bytes holds where the bytes l were put at place off -/
def putAt (f : Nat → Value) (off : Nat) (l : List UInt8) : Nat → Value := fun j => if off ≤ j ∧ j < off + l.length then .int .u8 ((l.getD (j - off) 0).toNat : Int) else f j

end Go.Proofs.YtddlaafpianjbaaDoor
