import Derived.Test.YtfnmakelbijmkaaDoorRt5
import Derived.Deep.RegionWith
set_option maxRecDepth 100000
namespace Go.Proofs.YtfnmakelbijmkaaDoor
open Go.RowKit
namespace Head
end Head
end Go.Proofs.YtfnmakelbijmkaaDoor
