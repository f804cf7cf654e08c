import Derived.Test.YtcdjfmlanicjlaaDoorSk4
import Derived.Deep.RegionWith
set_option maxRecDepth 100000
namespace Go.Proofs.YtcdjfmlanicjlaaDoor
open Go.RowKit
namespace Head
end Head
end Go.Proofs.YtcdjfmlanicjlaaDoor
