import Derived.Test.YtfnmakelbijmkaaDoorRt25
set_option maxRecDepth 100000
namespace Go.Proofs.YtfnmakelbijmkaaDoor
open Go.RowKit
namespace RefHead
open Head
end RefHead
namespace RefHead
open Head
end RefHead
end Go.Proofs.YtfnmakelbijmkaaDoor
