import Derived.Test.YtagmgldibjjeeaaDoorPq3
import Derived.Deep.OwnRows
import Derived.Laws.CopyOwn
import Derived.Lib.SlBuf
set_option maxRecDepth 100000
namespace Go.Proofs.YtagmgldibjjeeaaDoor
open Go.RowKit
theorem info5:(Tryd.prog.info? 5).map (fun i => (i.zero,i.size,i.bytes)) = some (some (Value.int IntKind.u8 0),1,1):=by kernel_rfl
end Go.Proofs.YtagmgldibjjeeaaDoor
