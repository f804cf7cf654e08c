import Derived.Test.YtpanhhjkecebkaaGreatDoorSt13
import Derived.Deep.Slices
import Derived.Deep.MidRow
set_option maxRecDepth 100000
namespace Go.Proofs.YtpanhhjkecebkaaGreatDoor
open Go.RowKit Go.Deep
end Go.Proofs.YtpanhhjkecebkaaGreatDoor
