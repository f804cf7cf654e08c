import Derived.Test.YtpanhhjkecebkaaPb5
import Derived.Lib.IndexLaws
import Derived.BigQuiet
set_option maxRecDepth 100000
namespace Go.Proofs.Ytpanhhjkecebkaa
open Go.RowKit
namespace Cut
def At (l:List UInt8) (c:UInt8) (k:Nat):Prop:=l[k]? = some c /\ ∀ j,j < k -> l[j]? ≠ some c
end Cut
end Go.Proofs.Ytpanhhjkecebkaa
