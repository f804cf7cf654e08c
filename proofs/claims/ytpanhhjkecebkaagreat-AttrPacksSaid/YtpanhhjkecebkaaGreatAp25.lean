import Derived.Test.YtpanhhjkecebkaaGreatAp20
import Derived.BigQuiet
import Derived.BigGuardPart
set_option maxRecDepth 100000
namespace Go.Proofs.YtpanhhjkecebkaaGreat
open Go.RowKit
namespace Oct
end Oct
end Go.Proofs.YtpanhhjkecebkaaGreat
