import Derived.Test.YtpanhhjkecebkaaGreatPt3
import Derived.LaidMore
import Derived.Deep.MidRow
import Derived.Lib.SmallJoins
set_option maxRecDepth 100000
namespace Go.Proofs.YtpanhhjkecebkaaGreat
open Go.RowKit
class Kp (K:World -> Prop):Prop where
 keep:∀ {w w':World},K w -> Below w.heap.size w w' -> K w'
instance Kp.and {K K2:World -> Prop} [Kp K] [Kp K2]:Kp (fun w => K w /\ K2 w):=⟨fun h hb => ⟨Kp.keep h.1 hb,Kp.keep h.2 hb⟩⟩
end Go.Proofs.YtpanhhjkecebkaaGreat
namespace Go
end Go
