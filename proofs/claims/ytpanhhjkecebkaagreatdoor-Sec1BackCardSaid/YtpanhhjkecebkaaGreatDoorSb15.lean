/- Joined texts. -/
-- PACK: YtpanhhjkecebkaaGreatDoorArg
import Derived.Test.YtpanhhjkecebkaaGreatDoorSb12
import Derived.Deep.Slices
import Derived.OpenShut
import Derived.Deep.MidRow

/- Slices among the arguments, element for element. -/
namespace Go.Proofs.YtpanhhjkecebkaaGreatDoor
open Go.RowKit Go.Deep

/-- v is a slice of pairs of numbers -/
def PairsS (w : World) (v : Value) (l : List (Int × Int)) : Prop := SlR w 2 v l.length (l.flatMap fun p => [.int .i64 p.1, .int .i64 p.2])
end Go.Proofs.YtpanhhjkecebkaaGreatDoor
