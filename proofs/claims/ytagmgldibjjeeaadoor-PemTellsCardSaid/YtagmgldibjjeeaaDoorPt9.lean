import Derived.Test.YtagmgldibjjeeaaDoorPt8
import Derived.Deep.Slices
import Derived.Deep.MidRow
set_option maxRecDepth 100000
namespace Go.Proofs.YtagmgldibjjeeaaDoor
open Go.RowKit Go.Deep
end Go.Proofs.YtagmgldibjjeeaaDoor
