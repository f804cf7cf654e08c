import Derived.Test.YtpanhhjkecebkaaPb21
import Derived.Test.YtpanhhjkecebkaaPb8
import Derived.Test.YtpanhhjkecebkaaPb13
set_option maxRecDepth 100000
namespace Go.Proofs.Ytpanhhjkecebkaa
open Go.RowKit
namespace Dig
end Dig
namespace Dig
end Dig
namespace Dig
end Dig
namespace Dig
def digs:Nat -> Nat -> List UInt8
 | 0,_ => []
 | f+1,M => if M < 10 then [UInt8.ofNat (48 + M)] else digs f (M / 10) ++ [UInt8.ofNat (48 + M % 10)]
def step (n:Int) (c:UInt8):Int:=if 48 <= c.toNat /\ c.toNat <= 57 then wrap64 (10 * n - ((c.toNat:Int) - 48)) else n
def numS (n:Int):List UInt8:=if n < 0 then 45 :: digs 20 n.natAbs else digs 20 n.natAbs
def unF (t:List UInt8):Int:=t.foldl step 0
def unV (t:List UInt8):Int:=if t ≠ [] /\ t.head? ≠ some 45 then wrap64 (-(unF t)) else unF t
end Dig
namespace Dig
end Dig
namespace RefDig
open Dig
end RefDig
namespace RefDig
open Dig
end RefDig
namespace RefHead
open Head
end RefHead
end Go.Proofs.Ytpanhhjkecebkaa
