/- Joined texts. -/
-- PACK: YtpanhhjkecebkaaGreatDoorOctAwake
import Derived.Test.YtpanhhjkecebkaaGreatDoorSb3
import Derived.Test.YtpanhhjkecebkaaGreatDoorSb2
import Derived.Test.YtpanhhjkecebkaaGreatDoorSb20
import Derived.BigQuiet
import Derived.BigGuardPart

/- octets.Pad, and the law's awake. -/
namespace Go.Proofs.YtpanhhjkecebkaaGreatDoor
open Go.RowKit
namespace Oct

end Oct
end Go.Proofs.YtpanhhjkecebkaaGreatDoor
