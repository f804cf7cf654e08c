import Derived.Test.YtcdjfmlanicjlaaDoorSk10
import Derived.BigQuiet
set_option maxRecDepth 100000
namespace Go.Proofs.YtcdjfmlanicjlaaDoor
open Go.RowKit
namespace Oid
end Oid
end Go.Proofs.YtcdjfmlanicjlaaDoor
