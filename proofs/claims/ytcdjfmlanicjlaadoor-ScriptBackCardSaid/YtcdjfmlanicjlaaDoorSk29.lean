import Derived.Test.YtcdjfmlanicjlaaDoorSk27
import Derived.Laws.EntriesVeiled
set_option maxRecDepth 100000
namespace Go.Proofs.YtcdjfmlanicjlaaDoor
open Go.RowKit Go.Shelf
attribute [local go_sem] Oper.semAt_some
namespace Prn
end Prn
end Go.Proofs.YtcdjfmlanicjlaaDoor
