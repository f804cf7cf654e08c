/- Joined texts. -/
-- PACK: YtihpndfjcgodiaaHeadAwake
import Derived.Test.YtihpndfjcgodiaaTw30
import Derived.Laws.StructEq

/- What the law calls awake, for layer 15. -/
namespace Go.Proofs.Ytihpndfjcgodiaa
open Go.RowKit
namespace Head

end Head
end Go.Proofs.Ytihpndfjcgodiaa
