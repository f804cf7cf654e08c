import Derived.Test.YtpanhhjkecebkaaPb24
set_option maxRecDepth 100000
namespace Go.Proofs.Ytpanhhjkecebkaa
open Go.RowKit
namespace RefHead
open Head
end RefHead
namespace RefHead
open Head
theorem psize
 (c t n:Int) (b:Bool) (X:ByteArray) (e:Int) (_hX:X.size <= 100) (c1:Mak 27 #[.agg #[.int .i64 c,.int .i64 t,.bool b,.int .i64 n]] (.tuple #[.string X,.int .i64 e])):Mak 26 #[.agg #[.int .i64 c,.int .i64 t,.bool b,.int .i64 n]] (.int .i64 (X.size:Int)):=by
   intro w
   go_enter Try.func26,Try.ntmps26
   go_wp2_with fail
   refine c1.calls0 ?_
   intro w1 h1
   have H1:Hid (Since w w1):=lH (Since.step ((Since.refl w).alloc _) h1)
   clear h1
   go_wp2_with fail
   go_ret
   exact ⟨rfl,H1.out⟩
end RefHead
end Go.Proofs.Ytpanhhjkecebkaa
