import Derived.Test.YtfnmakelbijmkaaGreatDoorRh4
import Derived.StillTailTactics
set_option maxRecDepth 100000
namespace Go
end Go
