/- Joined texts. -/
-- PACK: YtgfdomdbjiflmaaGreatDoorShorts
import Derived.Test.YtgfdomdbjiflmaaGreatDoorKv14
import Derived.IntWalk

/- What several laws ask of strings: clavigerplain.Shorts. -/
namespace Go.Proofs.YtgfdomdbjiflmaaGreatDoor
open Go.RowKit
namespace Plain
def shortB (m : Nat) (s : ByteArray) : Bool := decide (s.size ≤ m)
def shortsB (l : List ByteArray) (n m : Nat) : Bool := decide (l.length ≤ n) && l.all (shortB m)
theorem shortsB_spec (l : List ByteArray) (n m : Nat) (h : shortsB l n m = true) : l.length ≤ n ∧ ∀ s ∈ l, s.size ≤ m := by
  unfold shortsB at h
  rw [Bool.and_eq_true, List.all_eq_true] at h
  exact ⟨of_decide_eq_true h.1, fun s hs => of_decide_eq_true (h.2 s hs)⟩
end Plain
end Go.Proofs.YtgfdomdbjiflmaaGreatDoor
