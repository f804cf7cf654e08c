import Derived.Test.YtpanhhjkecebkaaPb11
import Derived.Deep.Slices
import Derived.Deep.MidRow
set_option maxRecDepth 100000
namespace Go.Proofs.Ytpanhhjkecebkaa
open Go.RowKit Go.Deep
end Go.Proofs.Ytpanhhjkecebkaa
