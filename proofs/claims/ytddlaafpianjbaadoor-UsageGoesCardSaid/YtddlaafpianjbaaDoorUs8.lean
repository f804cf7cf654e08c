/- Joined texts. -/
-- PACK: YtddlaafpianjbaaDoorOid2 YtddlaafpianjbaaDoorSlEqI
import Derived.Test.YtddlaafpianjbaaDoorUs7
import Derived.Deep.QuietTactic
import Derived.BigQuiet

/- Package oid and its reference: Right, Under. -/
namespace Go.Proofs.YtddlaafpianjbaaDoor
open Go.RowKit
namespace Oid

/-- the greatest that arc j + 1 may be -/
def mst (a : Int) (j : Nat) : Int := if j = 0 then (if a = 2 then 2147483567 else 39) else 2147483647
theorem ok_iff (xs : List Int) : Ok xs ↔ 2 ≤ xs.length ∧ xs.length ≤ 20 ∧ 0 ≤ xs.getD 0 0 ∧ xs.getD 0 0 ≤ 2 ∧ ∀ j, j + 1 < xs.length → 0 ≤ xs.getD (j + 1) 0 ∧ xs.getD (j + 1) 0 ≤ mst (xs.getD 0 0) j := by
  match xs with
  | [] => simp [Ok]
  | [a] => simp [Ok]
  | a :: b :: r =>
    simp only [Ok, List.length_cons, List.getD_cons_zero, List.getD_cons_succ]
    constructor
    · rintro ⟨h1, h2, h3, h4, h5, h6⟩
      refine ⟨by omega, by omega, h2, h3, fun j hj => ?_⟩
      cases j with
      | zero =>
        simp only [mst, List.getD_cons_zero, if_true]
        refine ⟨h4, ?_⟩
        split <;> omega
      | succ j =>
        simp only [mst, List.getD_cons_succ, Nat.add_eq_zero_iff, Nat.succ_ne_self, and_false, if_false]
        have hj2 : j < r.length := by omega
        have := h6 (r.getD j 0) (by simp [List.getD, hj2])
        exact this
    · rintro ⟨h1, h2, h3, h4, h5⟩
      have h0 := h5 0 (by omega)
      simp only [mst, List.getD_cons_zero, if_true] at h0
      refine ⟨by omega, h3, h4, h0.1, ?_, fun x hx => ?_⟩
      · obtain ⟨_, h0⟩ := h0
        split at h0 <;> omega
      · obtain ⟨i, hi, rfl⟩ := List.getElem_of_mem hx
        have := h5 (i + 1) (by omega)
        simp only [mst, List.getD_cons_succ, Nat.add_eq_zero_iff, Nat.succ_ne_self, and_false, if_false] at this
        simpa [List.getD, hi] using this
theorem ok_lt (xs : List Int) (h : xs.length < 2 ∨ 20 < xs.length ∨ xs.getD 0 0 < 0 ∨ 2 < xs.getD 0 0) : decide (Ok xs) = false := by
  rw [decide_eq_false_iff_not, ok_iff]
  omega
theorem ok_bad (xs : List Int) (j : Nat) (hj : j + 1 < xs.length) (h : ¬ (0 ≤ xs.getD (j + 1) 0 ∧ xs.getD (j + 1) 0 ≤ mst (xs.getD 0 0) j)) : decide (Ok xs) = false := by
  rw [decide_eq_false_iff_not, ok_iff]
  exact fun h2 => h (h2.2.2.2.2 j hj)
theorem ok_all (xs : List Int) (h1 : 2 ≤ xs.length) (h2 : xs.length ≤ 20) (h3 : 0 ≤ xs.getD 0 0) (h4 : xs.getD 0 0 ≤ 2) (h : ∀ j, j + 1 < xs.length → 0 ≤ xs.getD (j + 1) 0 ∧ xs.getD (j + 1) 0 ≤ mst (xs.getD 0 0) j) : decide (Ok xs) = true := by
  rw [decide_eq_true_iff, ok_iff]
  exact ⟨h1, h2, h3, h4, h⟩
set_option maxRecDepth 100000 in
theorem size_i (w : World) : (Go.sizeOf 3).run Tryd.prog w = .ok 1 w := by kernel_rfl

/-- b begins with the arcs of a and has more -/
def und (a b : List Int) : Bool := decide (a.length < b.length ∧ b.take a.length = a)
theorem take_int (a b : List Int) (k : Nat) (h1 : k < a.length) (h2 : k < b.length) (h : b.take k = a.take k) (he : a.getD k 0 = b.getD k 0) : b.take (k + 1) = a.take (k + 1) := by
  rw [List.take_succ_eq_append_getElem h1, List.take_succ_eq_append_getElem h2, h]
  simp [List.getD, List.getElem?_eq_getElem h1, List.getElem?_eq_getElem h2] at he
  rw [he]
end Oid
end Go.Proofs.YtddlaafpianjbaaDoor

/- slices.Equal of slices of numbers. -/
namespace Go.Proofs.YtddlaafpianjbaaDoor
open Go.RowKit

theorem since_drewNi {W0 w : World} (h : Since W0 w) (n : Nat) : Since W0 (w.drewN n) := h.step ⟨rfl, rfl, rfl, Nat.le_refl _, fun _ _ => rfl⟩

theorem cell_sincei {w wr : World} {ad : Addr} {i : Nat} {v : Value} (h : Since w wr) (hb : ad.block < w.heap.size) (hc : w.cell? (ad.add i) = some v) : wr.cell? (ad.add i) = some v :=
  (h.below.cell (by rw [show (ad.add i).block = ad.block from by unfold Addr.add; split <;> rfl]; exact hb)).trans hc

theorem take_eq_snoci (ss tt : List Int) (k : Nat) (h1 : k < ss.length) (h2 : k < tt.length) (h : ss.take k = tt.take k) (he : ss.getD k 0 = tt.getD k 0) : ss.take (k + 1) = tt.take (k + 1) := by
  rw [List.take_succ_eq_append_getElem h1, List.take_succ_eq_append_getElem h2, h]
  simp [List.getD, List.getElem?_eq_getElem h1, List.getElem?_eq_getElem h2] at he
  rw [he]

end Go.Proofs.YtddlaafpianjbaaDoor
