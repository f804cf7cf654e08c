import Derived.Test.YtcdjfmlanicjlaaGreatDoorSl41
import Derived.Test.YtcdjfmlanicjlaaGreatDoorSl26
set_option maxRecDepth 100000
namespace Go.Proofs.YtcdjfmlanicjlaaGreatDoor
open Go.RowKit
namespace Tlv
open Span Flt Rw
end Tlv
namespace Tlv
open Span Flt Rw
end Tlv
namespace Tlv
open Span Flt Rw
end Tlv
namespace Tlv
open Span Flt Rw
def SpansS (w:World) (v:Value) (sp:List (Nat × Nat)):Prop:=SlR w 1 v sp.length (sp.map (fun p => .complex .f64 (fl (p.1:Int)) (fl (p.2:Int))))
end Tlv
namespace Tree
open Tlv Strs
end Tree
namespace Tree
open Tlv Strs
structure Small (N:List Nd):Prop where
 len:N.length <= 100000
 data:∀ x ∈ N,x.d.size <= 100000
end Tree
namespace Tree
open Tlv Strs
structure HO (w:World) (g n m:Nat) (hv:Nat -> Array Value) (W:World):Prop where
 since:Since w W
 low:w.heap.size <= g
 lt:g < W.heap.size
 th:W.there g 0 (n * 4)
 at_:∀ j,m <= j -> j < n -> W.rangeAt g (j * 4) (hv j).toList
section
variable {w:World} {g n m:Nat} {hv:Nat -> Array Value} {W W':World}
end
end Tree
namespace Tree
open Tlv Strs
end Tree
end Go.Proofs.YtcdjfmlanicjlaaGreatDoor
