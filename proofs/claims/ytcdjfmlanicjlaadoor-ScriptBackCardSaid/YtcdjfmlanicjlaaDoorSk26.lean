import Derived.Test.YtcdjfmlanicjlaaDoorSk25
set_option maxRecDepth 100000
namespace Go.Proofs.YtcdjfmlanicjlaaDoor
open Go.RowKit
namespace RefHead
open Head
end RefHead
namespace RefHead
open Head
end RefHead
end Go.Proofs.YtcdjfmlanicjlaaDoor
