import Derived.Test.YtcdjfmlanicjlaaDoorSk23
import Derived.BigQuiet
import Derived.BigGuardPart
set_option maxRecDepth 100000
namespace Go.Proofs.YtcdjfmlanicjlaaDoor
open Go.RowKit
namespace Oct
end Oct
end Go.Proofs.YtcdjfmlanicjlaaDoor
