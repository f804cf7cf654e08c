import Derived.Test.YtpanhhjkecebkaaPb21
import Derived.BigQuiet
import Derived.BigGuardPart
set_option maxRecDepth 100000
namespace Go.Proofs.Ytpanhhjkecebkaa
open Go.RowKit
namespace Oct
end Oct
end Go.Proofs.Ytpanhhjkecebkaa
