/- Joined texts. -/
-- PACK: YtcjdhnggddljbaaCel
import Derived.Test.YtcjdhnggddljbaaSf6
import Derived.Laws.IdiomCopy
import Derived.Laws.IdiomStrings

/- The bytes that a conversion of a string made: read, written, turned into a string again. -/
namespace Go.Proofs.Ytcjdhnggddljbaa
open Go.RowKit

/-- the first n cells of block b are f, and may be written -/
structure Cel (w : World) (b n : Nat) (f : Nat → Value) : Prop where
  lt : b < w.heap.size
  cell : ∀ i, i < n → w.cell? ⟨b, i, none⟩ = some (f i)
  free : ∀ i, i < n → w.frozen? ⟨b, i, none⟩ = false
theorem Cel.below {w w' : World} {b n : Nat} {f : Nat → Value} (h : Cel w b n f) (hb : Below w.heap.size w w') : Cel w' b n f :=
  ⟨Nat.lt_of_lt_of_le h.lt hb.size, fun i hi => (hb.cell (p := ⟨b, i, none⟩) h.lt).trans (h.cell i hi), fun i hi => (hb.frozen (p := ⟨b, i, none⟩) h.lt).trans (h.free i hi)⟩
theorem Cel.congr {w : World} {b n : Nat} {f g : Nat → Value} (h : Cel w b n f) (hg : ∀ i, i < n → f i = g i) : Cel w b n g :=
  ⟨h.lt, fun i hi => by rw [← hg i hi]; exact h.cell i hi, h.free⟩
theorem below_setCells {B b : Nat} {w0 : World} (hB : B ≤ b) : ∀ (vs : List Value) (o : Nat) (w : World), Below B w0 w → Below B w0 (w.setCells b o vs)
  | [], _, _, h => h
  | v :: vs, o, w, h => by
    rw [World.setCells]
    exact below_setCells hB vs (o + 1) _ (Below.setCell h hB _)
theorem size_setCells (b : Nat) : ∀ (vs : List Value) (o : Nat) (w : World), (w.setCells b o vs).heap.size = w.heap.size
  | [], _, _ => rfl
  | v :: vs, o, w => by
    rw [World.setCells, size_setCells b vs (o + 1)]
    simp
end Go.Proofs.Ytcjdhnggddljbaa
