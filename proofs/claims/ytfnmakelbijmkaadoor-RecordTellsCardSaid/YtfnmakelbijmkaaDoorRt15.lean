import Derived.Test.YtfnmakelbijmkaaDoorRt11
import Derived.BigQuiet
set_option maxRecDepth 100000
namespace Go.Proofs.YtfnmakelbijmkaaDoor
open Go.RowKit
namespace Oid
end Oid
end Go.Proofs.YtfnmakelbijmkaaDoor
