import Derived.Test.YtfnmakelbijmkaaDoorRt4
import Derived.StillTailTactics
set_option maxRecDepth 100000
namespace Go
end Go
