import Derived.Test.YtagmgldibjjeeaaDoorPt15
import Derived.Laws.CopyOwn
set_option maxRecDepth 100000
namespace Go.Proofs.YtagmgldibjjeeaaDoor
open Go.RowKit
structure HB (w:World) (K:World -> Prop) (g:Nat) (C:Array Value) (W:World):Prop where
 since:Since w W
 tabs:K W
 cell:∀ i v,C[i]? = some v -> W.cell? ⟨g,i,none⟩ = some v
 lg:g < W.heap.size
instance:Kp (fun _ => True):=⟨fun _ _ => trivial⟩
structure HR (w:World) (g:Nat) (C:Array Value) (t:TypeId) (W:World):Prop where
 row:W.heap[g]? = some (.cells C t (0,0))
end Go.Proofs.YtagmgldibjjeeaaDoor
