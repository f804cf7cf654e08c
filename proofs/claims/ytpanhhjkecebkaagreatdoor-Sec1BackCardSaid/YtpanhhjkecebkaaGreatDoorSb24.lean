/- Joined texts. -/
-- PACK: YtpanhhjkecebkaaGreatDoorRefHeadE YtpanhhjkecebkaaGreatDoorRefHeadE2
import Derived.Test.YtpanhhjkecebkaaGreatDoorSb23
import Derived.IntWalk

/- The reference of package head: Encode with a long tag, and whole. -/
namespace Go.Proofs.YtpanhhjkecebkaaGreatDoor
open Go.RowKit
namespace RefHead
open Head

end RefHead
end Go.Proofs.YtpanhhjkecebkaaGreatDoor

/- The reference of package head: Encode, whole. -/
namespace Go.Proofs.YtpanhhjkecebkaaGreatDoor
open Go.RowKit
namespace RefHead
open Head

set_option maxRecDepth 100000 in
theorem psize
  (c t n : Int) (b : Bool) (X : ByteArray) (e : Int) (_hX : X.size ≤ 100) (c1 : Mak 36 #[.agg #[.int .i64 c, .int .i64 t, .bool b, .int .i64 n]] (.tuple #[.string X, .int .i64 e])) : Mak 35 #[.agg #[.int .i64 c, .int .i64 t, .bool b, .int .i64 n]] (.int .i64 (X.size : Int)) := by
    intro w
    go_enter Tryz.func35, Tryz.ntmps35
    go_wp2_with fail
    refine c1.calls0 ?_
    intro w1 h1
    have H1 : Hid (Since w w1) := Lib.hid (Since.step ((Since.refl w).alloc _) h1)
    clear h1
    go_wp2_with fail
    go_ret
    exact ⟨rfl, H1.out⟩
end RefHead
end Go.Proofs.YtpanhhjkecebkaaGreatDoor
