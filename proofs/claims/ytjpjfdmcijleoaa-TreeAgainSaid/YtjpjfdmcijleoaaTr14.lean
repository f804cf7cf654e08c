/- Joined texts. -/
-- PACK: YtjpjfdmcijleoaaCut
import Derived.Test.YtjpjfdmcijleoaaTr4
import Derived.Laws.Externs
import Derived.Lib.Bytealg
import Derived.Lib.IndexLaws
import Derived.Deep.QuietTactic
import Derived.BigQuiet
import Derived.IntWalk

/- strings.Cut at a separator of one byte. -/
namespace Go.Proofs.Ytjpjfdmcijleoaa
open Go.RowKit
namespace Cut
/-- where the byte c is first; where it is not -/
def At (l : List UInt8) (c : UInt8) (k : Nat) : Prop := l[k]? = some c ∧ ∀ j, j < k → l[j]? ≠ some c
theorem at_index (l : List UInt8) (c : UInt8) (k : Nat) (h : At l c k) : Lib.indexByte l c = (k : Int) := by
  induction l generalizing k with
  | nil => simp [At] at h
  | cons b l ih =>
    unfold Lib.indexByte
    by_cases hb : b = c
    · subst hb
      rw [if_pos (beq_self_eq_true b)]
      cases k with
      | zero => rfl
      | succ k => exact absurd rfl (h.2 0 (by omega))
    · rw [if_neg (by simpa using hb)]
      cases k with
      | zero => have := h.1; simp at this; exact absurd this hb
      | succ k =>
        have h2 : At l c k := ⟨by have := h.1; simpa using this, fun j hj => by have := h.2 (j + 1) (by omega); simpa using this⟩
        rw [ih k h2]
        rw [if_neg (by rw [beq_iff_eq]; omega)]; omega
theorem none_index (l : List UInt8) (c : UInt8) (h : c ∉ l) : Lib.indexByte l c = -1 := by
  induction l with
  | nil => rfl
  | cons b l ih =>
    unfold Lib.indexByte
    rw [if_neg (by rw [beq_iff_eq]; intro h2; exact h (by rw [h2]; simp)), ih (fun h2 => h (by simp [h2]))]; rfl
end Cut
end Go.Proofs.Ytjpjfdmcijleoaa
