import Derived.Test.YtagmgldibjjeeaaDoorPt4
import Derived.OpenShut
set_option maxRecDepth 100000
namespace Go.Proofs.YtagmgldibjjeeaaDoor
open Go.RowKit
end Go.Proofs.YtagmgldibjjeeaaDoor
