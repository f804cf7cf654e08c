/- Joined texts. -/
-- PACK: YtcjdhnggddljbaaBytes
import Derived.Test.YtcjdhnggddljbaaSf3
import Derived.Laws.BytesArg
import Derived.Laws.BytesString

/- Slices of bytes of the call's own: literals, what was appended to, and the string of what they hold. -/
namespace Go.Proofs.Ytcjdhnggddljbaa
open Go.RowKit

theorem heap_new (w : World) (o : Obj) : (w.alloc o).heap[w.heap.size]? = some o := by
  show (w.heap.push o)[w.heap.size]? = some o
  simp
theorem own_lit (w : World) (b g : Nat) (hg : g = w.heap.size) (hb : b ≤ w.heap.size) (xs : List Value) (n : Nat) (hn : xs.length = n) (hm : n ≤ maxLen) (cells : Array Value) (hc : cells = xs.toArray) (t : TypeId) :
    (w.alloc (.cells cells t)).ownsRow b t 1 (.slice (some ⟨g, 0, none⟩) n n) n xs := by
  subst hg hc hn
  exact ⟨by simp, Or.inr ⟨_, _, _, rfl, hb, heap_new w _, Nat.le_refl _, hm, by simp, by simp⟩⟩
end Go.Proofs.Ytcjdhnggddljbaa
