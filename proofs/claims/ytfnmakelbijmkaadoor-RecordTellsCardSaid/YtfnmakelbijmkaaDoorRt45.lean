import Derived.Test.YtfnmakelbijmkaaDoorRt44
set_option maxRecDepth 100000
namespace Go.Proofs.YtfnmakelbijmkaaDoor
namespace Tlv
open Tree
end Tlv
end Go.Proofs.YtfnmakelbijmkaaDoor
