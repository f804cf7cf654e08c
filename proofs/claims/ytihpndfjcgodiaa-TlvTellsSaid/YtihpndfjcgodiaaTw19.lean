/- Joined texts. -/
-- PACK: YtihpndfjcgodiaaSlEqI
import Derived.Test.YtihpndfjcgodiaaTw14
import Derived.Deep.QuietTactic
import Derived.BigQuiet

/- slices.Equal of slices of numbers. -/
namespace Go.Proofs.Ytihpndfjcgodiaa
open Go.RowKit

theorem since_drewNi {W0 w : World} (h : Since W0 w) (n : Nat) : Since W0 (w.drewN n) := h.step ⟨rfl, rfl, rfl, Nat.le_refl _, fun _ _ => rfl⟩

theorem cell_sincei {w wr : World} {ad : Addr} {i : Nat} {v : Value} (h : Since w wr) (hb : ad.block < w.heap.size) (hc : w.cell? (ad.add i) = some v) : wr.cell? (ad.add i) = some v :=
  (h.below.cell (by rw [show (ad.add i).block = ad.block from by unfold Addr.add; split <;> rfl]; exact hb)).trans hc

theorem take_eq_snoci (ss tt : List Int) (k : Nat) (h1 : k < ss.length) (h2 : k < tt.length) (h : ss.take k = tt.take k) (he : ss.getD k 0 = tt.getD k 0) : ss.take (k + 1) = tt.take (k + 1) := by
  rw [List.take_succ_eq_append_getElem h1, List.take_succ_eq_append_getElem h2, h]
  simp [List.getD, List.getElem?_eq_getElem h1, List.getElem?_eq_getElem h2] at he
  rw [he]

end Go.Proofs.Ytihpndfjcgodiaa
