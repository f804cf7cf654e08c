import Derived.Test.YtcdjfmlanicjlaaGreatDoorSl10
import Derived.Deep.Slices
import Derived.Deep.MidRow
set_option maxRecDepth 100000
namespace Go.Proofs.YtcdjfmlanicjlaaGreatDoor
open Go.RowKit Go.Deep
theorem flatMap_get {α:Type} (f:α -> List Value) (k:Nat) (hk:∀ a,(f a).length = k):∀ (l:List α) (i:Nat) (a:α),l[i]? = some a -> ∀ j,j < k -> (l.flatMap f)[i * k + j]? = (f a)[j]? := by
 intro l
 induction l with
 | nil => intro i a h; simp at h
 | cons x l ih =>
   intro i a h j hj
   rw [List.flatMap_cons]
   cases i with
   | zero =>
     simp at h
     subst h
     rw [Nat.zero_mul,Nat.zero_add,List.getElem?_append_left (by rw [hk]; exact hj)]
   | succ i =>
     rw [List.getElem?_cons_succ] at h
     rw [List.getElem?_append_right (by rw [hk,Nat.succ_mul]; omega),hk,Nat.succ_mul,show i * k + k + j - k = i * k + j by omega]
     exact ih i a h j hj
end Go.Proofs.YtcdjfmlanicjlaaGreatDoor
