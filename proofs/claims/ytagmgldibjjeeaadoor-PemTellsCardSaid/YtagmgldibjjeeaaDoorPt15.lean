import Derived.Test.YtagmgldibjjeeaaDoorPt3
import Derived.LaidMore
import Derived.Deep.MidRow
import Derived.Lib.SmallJoins
set_option maxRecDepth 100000
namespace Go.Proofs.YtagmgldibjjeeaaDoor
open Go.RowKit
def KMk (K:World -> Prop) (f:Nat) (args:Array Value) (v:Value):Prop:=∀ w,K w -> Calls Tryd.prog f args w fun e w' => e = .returned v /\ Below w.heap.size w w'
class Kp (K:World -> Prop):Prop where
 keep:∀ {w w':World},K w -> Below w.heap.size w w' -> K w'
theorem KMk.calls0 {K:World -> Prop} {f:Nat} {args:Array Value} {v:Value} (h:KMk K f args v) {w:World} (hT:K w) {R:Ending -> World -> Prop} (k:∀ w',Below w.heap.size w w' -> R (.returned v) w'):Calls Tryd.prog f args w R :=
 (h w hT).mono fun _ _ ⟨he,hb⟩ => by subst he; exact k _ hb
instance Kp.and {K K2:World -> Prop} [Kp K] [Kp K2]:Kp (fun w => K w /\ K2 w):=⟨fun h hb => ⟨Kp.keep h.1 hb,Kp.keep h.2 hb⟩⟩
end Go.Proofs.YtagmgldibjjeeaaDoor
namespace Go
end Go
