import Derived.Test.YtfnmakelbijmkaaDoorRt4
import Derived.Laws.CopyOwn
import Derived.Lib.SlBuf
set_option maxRecDepth 100000
namespace Go.Proofs.YtfnmakelbijmkaaDoor
open Go.RowKit
end Go.Proofs.YtfnmakelbijmkaaDoor
