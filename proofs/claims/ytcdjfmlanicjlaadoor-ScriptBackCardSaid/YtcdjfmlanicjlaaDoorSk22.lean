import Derived.Test.YtcdjfmlanicjlaaDoorSk3
import Derived.Laws.CopyOwn
import Derived.Lib.SlBuf
set_option maxRecDepth 100000
namespace Go.Proofs.YtcdjfmlanicjlaaDoor
open Go.RowKit
end Go.Proofs.YtcdjfmlanicjlaaDoor
