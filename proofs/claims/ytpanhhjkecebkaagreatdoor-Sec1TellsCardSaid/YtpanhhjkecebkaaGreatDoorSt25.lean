import Derived.Test.YtpanhhjkecebkaaGreatDoorSt20
import Derived.BigQuiet
import Derived.BigGuardPart
set_option maxRecDepth 100000
namespace Go.Proofs.YtpanhhjkecebkaaGreatDoor
open Go.RowKit
namespace Oct
end Oct
end Go.Proofs.YtpanhhjkecebkaaGreatDoor
