/- Joined texts. -/
-- PACK: YtddlaafpianjbaaGreatDoorRefFrame YtddlaafpianjbaaGreatDoorRefFrame2
import Derived.Test.YtddlaafpianjbaaGreatDoorBb44
import Derived.Test.YtddlaafpianjbaaGreatDoorBb42

/- The reference of layer 34: Top. -/
namespace Go.Proofs.YtddlaafpianjbaaGreatDoor
open Go.RowKit
namespace Frame
open Att Templ Header
def RdR (l u m v e : ByteArray) (L : List A2) (n : Int) (V : Value) : Prop := ∀ w x, AttsS w x L → Calls Tryz.prog 31 #[.string l, .agg #[.string u, .string m, .string v, .string e], x, .int .i64 n] w fun z w' => z = .returned V ∧ Below w.heap.size w w'
end Frame
end Go.Proofs.YtddlaafpianjbaaGreatDoor

/- The reference of layer 34: Cut. -/
namespace Go.Proofs.YtddlaafpianjbaaGreatDoor
open Go.RowKit
namespace Frame
open Att Templ Header
def CutR (s l u m v e : ByteArray) (L : List A2) (P C G : ByteArray) : Prop := ∀ w, Calls Tryz.prog 37 #[.string s] w fun x w' => ∃ a, x = .returned (.tuple #[.agg (C9 l u m v e a P C G), .int .i64 0]) ∧ AttsS w' a L ∧ Below w.heap.size w w' ∧ Fresh w.heap.size a
end Frame
end Go.Proofs.YtddlaafpianjbaaGreatDoor
