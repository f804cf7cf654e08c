import Derived.Test.YtpanhhjkecebkaaGreatPt10
import Derived.Deep.Slices
import Derived.Deep.MidRow
set_option maxRecDepth 100000
namespace Go.Proofs.YtpanhhjkecebkaaGreat
open Go.RowKit Go.Deep
end Go.Proofs.YtpanhhjkecebkaaGreat
