/- Joined texts. -/
-- PACK: YtpanhhjkecebkaaGreatDoorStill
import Derived.Test.YtpanhhjkecebkaaGreatDoorSb3
import Derived.StillTailTactics
import Derived.Laws.Tables

/- A load whose value is known, in a region that only reads ahead of its end. -/
namespace Go
end Go
