/- Package fault: By, Told, All, First. -/
import Derived.Test.YtcdjpdncgaeinaaDoorFault
import Derived.Test.YtcdjpdncgaeinaaDoorMemA
namespace Go.Proofs.YtcdjpdncgaeinaaDoor
open Go.RowKit
namespace Fault

/-- the names' array, cell for cell -/
def namesA : Array Value := (tabN.map fun z => Value.string (bs z)).toArray
theorem namesA_at (i : Nat) (h : i < 18) : namesA[i]? = some (.string (bs (tabN.getD i []))) := by
  have h9 : i < tabN.length := h
  simp [namesA, List.getD, h9]

/-- the first place of a name, and whether there is one -/
def placeN (n : List UInt8) : Option Nat := (List.range 18).find? fun i => tabN.getD i [] == n
theorem placeN_at (n : List UInt8) (k : Nat) (hk : k < 18) (h : n = tabN.getD k []) : placeN n = some k := by
  subst h
  have hkk : k = 0 ∨ k = 1 ∨ k = 2 ∨ k = 3 ∨ k = 4 ∨ k = 5 ∨ k = 6 ∨ k = 7 ∨ k = 8 ∨ k = 9 ∨ k = 10 ∨ k = 11 ∨ k = 12 ∨ k = 13 ∨ k = 14 ∨ k = 15 ∨ k = 16 ∨ k = 17 := by omega
  rcases hkk with rfl | rfl | rfl | rfl | rfl | rfl | rfl | rfl | rfl | rfl | rfl | rfl | rfl | rfl | rfl | rfl | rfl | rfl <;> rfl
theorem sz (w : World) : (Go.sizeOf 9).run Tryd.prog w = .ok 1 w := by kernel_rfl
theorem ag (w : World) : (isAgg 9).run Tryd.prog w = .ok false w := by kernel_rfl
theorem run_idx (A : Array Value) (i : Int) (x : Value) (h0 : 0 ≤ i) (h18 : i < 18) (h : A[i.toNat]? = some x) (W : World) : (Instr.index 42 (.agg A) (.int .i64 i)).run Tryd.prog W = .ok x W := by
  simp [Instr.index, asIntOf, run_underlying (P := Tryd.prog) Tryd.underlying42 W, sz, part, ag, h0, h18, h]
set_option maxRecDepth 100000 in
set_option maxHeartbeats 8000000 in
theorem by_any (n : ByteArray) (hm : n.size ≤ 1000000) : KMak 7 #[.string n] (.tuple #[.int .i64 (((placeN n.data.toList).getD 0 : Nat) : Int), .bool (placeN n.data.toList).isSome]) := by
  intro w hT
  obtain ⟨P, hP⟩ : ∃ P, P = placeN n.data.toList := ⟨_, rfl⟩
  rw [← hP]
  obtain ⟨N, hN⟩ : ∃ N : Nat → ByteArray, ∀ i, bs (tabN.getD i []) = N i := ⟨_, fun i => rfl⟩
  have c0 : w.cell? ⟨0, 0, none⟩ = some (.string (N 0)) := by rw [← hN 0]; exact hT.1 0 (by decide)
  have c1 : w.cell? ⟨0, 1, none⟩ = some (.string (N 1)) := by rw [← hN 1]; exact hT.1 1 (by decide)
  have c2 : w.cell? ⟨0, 2, none⟩ = some (.string (N 2)) := by rw [← hN 2]; exact hT.1 2 (by decide)
  have c3 : w.cell? ⟨0, 3, none⟩ = some (.string (N 3)) := by rw [← hN 3]; exact hT.1 3 (by decide)
  have c4 : w.cell? ⟨0, 4, none⟩ = some (.string (N 4)) := by rw [← hN 4]; exact hT.1 4 (by decide)
  have c5 : w.cell? ⟨0, 5, none⟩ = some (.string (N 5)) := by rw [← hN 5]; exact hT.1 5 (by decide)
  have c6 : w.cell? ⟨0, 6, none⟩ = some (.string (N 6)) := by rw [← hN 6]; exact hT.1 6 (by decide)
  have c7 : w.cell? ⟨0, 7, none⟩ = some (.string (N 7)) := by rw [← hN 7]; exact hT.1 7 (by decide)
  have c8 : w.cell? ⟨0, 8, none⟩ = some (.string (N 8)) := by rw [← hN 8]; exact hT.1 8 (by decide)
  have c9 : w.cell? ⟨0, 9, none⟩ = some (.string (N 9)) := by rw [← hN 9]; exact hT.1 9 (by decide)
  have c10 : w.cell? ⟨0, 10, none⟩ = some (.string (N 10)) := by rw [← hN 10]; exact hT.1 10 (by decide)
  have c11 : w.cell? ⟨0, 11, none⟩ = some (.string (N 11)) := by rw [← hN 11]; exact hT.1 11 (by decide)
  have c12 : w.cell? ⟨0, 12, none⟩ = some (.string (N 12)) := by rw [← hN 12]; exact hT.1 12 (by decide)
  have c13 : w.cell? ⟨0, 13, none⟩ = some (.string (N 13)) := by rw [← hN 13]; exact hT.1 13 (by decide)
  have c14 : w.cell? ⟨0, 14, none⟩ = some (.string (N 14)) := by rw [← hN 14]; exact hT.1 14 (by decide)
  have c15 : w.cell? ⟨0, 15, none⟩ = some (.string (N 15)) := by rw [← hN 15]; exact hT.1 15 (by decide)
  have c16 : w.cell? ⟨0, 16, none⟩ = some (.string (N 16)) := by rw [← hN 16]; exact hT.1 16 (by decide)
  have c17 : w.cell? ⟨0, 17, none⟩ = some (.string (N 17)) := by rw [← hN 17]; exact hT.1 17 (by decide)
  go_enter Tryd.func7, Tryd.ntmps7
  go_wp2_with fail
  go_loop [7] (fun i => ∃ k : Nat, k ≤ 18 ∧ i = .int .i64 (k : Int) ∧ Hid (∀ j, j < k → n ≠ N j)) (fun i => 18 - (intOf i).toNat)
  case atStart => exact ⟨0, by omega, rfl, Lib.hid (fun j hj => absurd hj (Nat.not_lt_zero _))⟩
  case round =>
    obtain ⟨k, hk, rfl, HN⟩ := hrel
    by_cases hlt : k < 18
    · have hkk : k = 0 ∨ k = 1 ∨ k = 2 ∨ k = 3 ∨ k = 4 ∨ k = 5 ∨ k = 6 ∨ k = 7 ∨ k = 8 ∨ k = 9 ∨ k = 10 ∨ k = 11 ∨ k = 12 ∨ k = 13 ∨ k = 14 ∨ k = 15 ∨ k = 16 ∨ k = 17 := by omega
      rcases hkk with rfl | rfl | rfl | rfl | rfl | rfl | rfl | rfl | rfl | rfl | rfl | rfl | rfl | rfl | rfl | rfl | rfl | rfl
      · by_cases hq : n = N 0
        · have hix := run_idx #[.string (N 0), .string (N 1), .string (N 2), .string (N 3), .string (N 4), .string (N 5), .string (N 6), .string (N 7), .string (N 8), .string (N 9), .string (N 10), .string (N 11), .string (N 12), .string (N 13), .string (N 14), .string (N 15), .string (N 16), .string (N 17)] 0 (.string (N 0)) (by decide) (by decide) rfl w
          have hqb := str_eq_t hq.symm
          have hno : P = some 0 := hP.trans (placeN_at _ 0 (by decide) (by rw [hq, ← hN 0, list_bs]))
          subst hno
          clear hP hq
          go_wp2_with fail
          go_ret2
          exact ⟨rfl, Below.refl _ _⟩
        · have hix := run_idx #[.string (N 0), .string (N 1), .string (N 2), .string (N 3), .string (N 4), .string (N 5), .string (N 6), .string (N 7), .string (N 8), .string (N 9), .string (N 10), .string (N 11), .string (N 12), .string (N 13), .string (N 14), .string (N 15), .string (N 16), .string (N 17)] 0 (.string (N 0)) (by decide) (by decide) rfl w
          have hqb := str_ne_f (fun h => hq h.symm : N 0 ≠ n)
          go_wp2_with fail
          go_round
          case rel => exact ⟨0 + 1, by omega, rfl, Lib.hid (fun j hj => by
            by_cases h : j = 0
            · rw [h]; exact hq
            · exact HN.out j (by omega))⟩
          case measure => decide
      · by_cases hq : n = N 1
        · have hix := run_idx #[.string (N 0), .string (N 1), .string (N 2), .string (N 3), .string (N 4), .string (N 5), .string (N 6), .string (N 7), .string (N 8), .string (N 9), .string (N 10), .string (N 11), .string (N 12), .string (N 13), .string (N 14), .string (N 15), .string (N 16), .string (N 17)] 1 (.string (N 1)) (by decide) (by decide) rfl w
          have hqb := str_eq_t hq.symm
          have hno : P = some 1 := hP.trans (placeN_at _ 1 (by decide) (by rw [hq, ← hN 1, list_bs]))
          subst hno
          clear hP hq
          go_wp2_with fail
          go_ret2
          exact ⟨rfl, Below.refl _ _⟩
        · have hix := run_idx #[.string (N 0), .string (N 1), .string (N 2), .string (N 3), .string (N 4), .string (N 5), .string (N 6), .string (N 7), .string (N 8), .string (N 9), .string (N 10), .string (N 11), .string (N 12), .string (N 13), .string (N 14), .string (N 15), .string (N 16), .string (N 17)] 1 (.string (N 1)) (by decide) (by decide) rfl w
          have hqb := str_ne_f (fun h => hq h.symm : N 1 ≠ n)
          go_wp2_with fail
          go_round
          case rel => exact ⟨1 + 1, by omega, rfl, Lib.hid (fun j hj => by
            by_cases h : j = 1
            · rw [h]; exact hq
            · exact HN.out j (by omega))⟩
          case measure => decide
      · by_cases hq : n = N 2
        · have hix := run_idx #[.string (N 0), .string (N 1), .string (N 2), .string (N 3), .string (N 4), .string (N 5), .string (N 6), .string (N 7), .string (N 8), .string (N 9), .string (N 10), .string (N 11), .string (N 12), .string (N 13), .string (N 14), .string (N 15), .string (N 16), .string (N 17)] 2 (.string (N 2)) (by decide) (by decide) rfl w
          have hqb := str_eq_t hq.symm
          have hno : P = some 2 := hP.trans (placeN_at _ 2 (by decide) (by rw [hq, ← hN 2, list_bs]))
          subst hno
          clear hP hq
          go_wp2_with fail
          go_ret2
          exact ⟨rfl, Below.refl _ _⟩
        · have hix := run_idx #[.string (N 0), .string (N 1), .string (N 2), .string (N 3), .string (N 4), .string (N 5), .string (N 6), .string (N 7), .string (N 8), .string (N 9), .string (N 10), .string (N 11), .string (N 12), .string (N 13), .string (N 14), .string (N 15), .string (N 16), .string (N 17)] 2 (.string (N 2)) (by decide) (by decide) rfl w
          have hqb := str_ne_f (fun h => hq h.symm : N 2 ≠ n)
          go_wp2_with fail
          go_round
          case rel => exact ⟨2 + 1, by omega, rfl, Lib.hid (fun j hj => by
            by_cases h : j = 2
            · rw [h]; exact hq
            · exact HN.out j (by omega))⟩
          case measure => decide
      · by_cases hq : n = N 3
        · have hix := run_idx #[.string (N 0), .string (N 1), .string (N 2), .string (N 3), .string (N 4), .string (N 5), .string (N 6), .string (N 7), .string (N 8), .string (N 9), .string (N 10), .string (N 11), .string (N 12), .string (N 13), .string (N 14), .string (N 15), .string (N 16), .string (N 17)] 3 (.string (N 3)) (by decide) (by decide) rfl w
          have hqb := str_eq_t hq.symm
          have hno : P = some 3 := hP.trans (placeN_at _ 3 (by decide) (by rw [hq, ← hN 3, list_bs]))
          subst hno
          clear hP hq
          go_wp2_with fail
          go_ret2
          exact ⟨rfl, Below.refl _ _⟩
        · have hix := run_idx #[.string (N 0), .string (N 1), .string (N 2), .string (N 3), .string (N 4), .string (N 5), .string (N 6), .string (N 7), .string (N 8), .string (N 9), .string (N 10), .string (N 11), .string (N 12), .string (N 13), .string (N 14), .string (N 15), .string (N 16), .string (N 17)] 3 (.string (N 3)) (by decide) (by decide) rfl w
          have hqb := str_ne_f (fun h => hq h.symm : N 3 ≠ n)
          go_wp2_with fail
          go_round
          case rel => exact ⟨3 + 1, by omega, rfl, Lib.hid (fun j hj => by
            by_cases h : j = 3
            · rw [h]; exact hq
            · exact HN.out j (by omega))⟩
          case measure => decide
      · by_cases hq : n = N 4
        · have hix := run_idx #[.string (N 0), .string (N 1), .string (N 2), .string (N 3), .string (N 4), .string (N 5), .string (N 6), .string (N 7), .string (N 8), .string (N 9), .string (N 10), .string (N 11), .string (N 12), .string (N 13), .string (N 14), .string (N 15), .string (N 16), .string (N 17)] 4 (.string (N 4)) (by decide) (by decide) rfl w
          have hqb := str_eq_t hq.symm
          have hno : P = some 4 := hP.trans (placeN_at _ 4 (by decide) (by rw [hq, ← hN 4, list_bs]))
          subst hno
          clear hP hq
          go_wp2_with fail
          go_ret2
          exact ⟨rfl, Below.refl _ _⟩
        · have hix := run_idx #[.string (N 0), .string (N 1), .string (N 2), .string (N 3), .string (N 4), .string (N 5), .string (N 6), .string (N 7), .string (N 8), .string (N 9), .string (N 10), .string (N 11), .string (N 12), .string (N 13), .string (N 14), .string (N 15), .string (N 16), .string (N 17)] 4 (.string (N 4)) (by decide) (by decide) rfl w
          have hqb := str_ne_f (fun h => hq h.symm : N 4 ≠ n)
          go_wp2_with fail
          go_round
          case rel => exact ⟨4 + 1, by omega, rfl, Lib.hid (fun j hj => by
            by_cases h : j = 4
            · rw [h]; exact hq
            · exact HN.out j (by omega))⟩
          case measure => decide
      · by_cases hq : n = N 5
        · have hix := run_idx #[.string (N 0), .string (N 1), .string (N 2), .string (N 3), .string (N 4), .string (N 5), .string (N 6), .string (N 7), .string (N 8), .string (N 9), .string (N 10), .string (N 11), .string (N 12), .string (N 13), .string (N 14), .string (N 15), .string (N 16), .string (N 17)] 5 (.string (N 5)) (by decide) (by decide) rfl w
          have hqb := str_eq_t hq.symm
          have hno : P = some 5 := hP.trans (placeN_at _ 5 (by decide) (by rw [hq, ← hN 5, list_bs]))
          subst hno
          clear hP hq
          go_wp2_with fail
          go_ret2
          exact ⟨rfl, Below.refl _ _⟩
        · have hix := run_idx #[.string (N 0), .string (N 1), .string (N 2), .string (N 3), .string (N 4), .string (N 5), .string (N 6), .string (N 7), .string (N 8), .string (N 9), .string (N 10), .string (N 11), .string (N 12), .string (N 13), .string (N 14), .string (N 15), .string (N 16), .string (N 17)] 5 (.string (N 5)) (by decide) (by decide) rfl w
          have hqb := str_ne_f (fun h => hq h.symm : N 5 ≠ n)
          go_wp2_with fail
          go_round
          case rel => exact ⟨5 + 1, by omega, rfl, Lib.hid (fun j hj => by
            by_cases h : j = 5
            · rw [h]; exact hq
            · exact HN.out j (by omega))⟩
          case measure => decide
      · by_cases hq : n = N 6
        · have hix := run_idx #[.string (N 0), .string (N 1), .string (N 2), .string (N 3), .string (N 4), .string (N 5), .string (N 6), .string (N 7), .string (N 8), .string (N 9), .string (N 10), .string (N 11), .string (N 12), .string (N 13), .string (N 14), .string (N 15), .string (N 16), .string (N 17)] 6 (.string (N 6)) (by decide) (by decide) rfl w
          have hqb := str_eq_t hq.symm
          have hno : P = some 6 := hP.trans (placeN_at _ 6 (by decide) (by rw [hq, ← hN 6, list_bs]))
          subst hno
          clear hP hq
          go_wp2_with fail
          go_ret2
          exact ⟨rfl, Below.refl _ _⟩
        · have hix := run_idx #[.string (N 0), .string (N 1), .string (N 2), .string (N 3), .string (N 4), .string (N 5), .string (N 6), .string (N 7), .string (N 8), .string (N 9), .string (N 10), .string (N 11), .string (N 12), .string (N 13), .string (N 14), .string (N 15), .string (N 16), .string (N 17)] 6 (.string (N 6)) (by decide) (by decide) rfl w
          have hqb := str_ne_f (fun h => hq h.symm : N 6 ≠ n)
          go_wp2_with fail
          go_round
          case rel => exact ⟨6 + 1, by omega, rfl, Lib.hid (fun j hj => by
            by_cases h : j = 6
            · rw [h]; exact hq
            · exact HN.out j (by omega))⟩
          case measure => decide
      · by_cases hq : n = N 7
        · have hix := run_idx #[.string (N 0), .string (N 1), .string (N 2), .string (N 3), .string (N 4), .string (N 5), .string (N 6), .string (N 7), .string (N 8), .string (N 9), .string (N 10), .string (N 11), .string (N 12), .string (N 13), .string (N 14), .string (N 15), .string (N 16), .string (N 17)] 7 (.string (N 7)) (by decide) (by decide) rfl w
          have hqb := str_eq_t hq.symm
          have hno : P = some 7 := hP.trans (placeN_at _ 7 (by decide) (by rw [hq, ← hN 7, list_bs]))
          subst hno
          clear hP hq
          go_wp2_with fail
          go_ret2
          exact ⟨rfl, Below.refl _ _⟩
        · have hix := run_idx #[.string (N 0), .string (N 1), .string (N 2), .string (N 3), .string (N 4), .string (N 5), .string (N 6), .string (N 7), .string (N 8), .string (N 9), .string (N 10), .string (N 11), .string (N 12), .string (N 13), .string (N 14), .string (N 15), .string (N 16), .string (N 17)] 7 (.string (N 7)) (by decide) (by decide) rfl w
          have hqb := str_ne_f (fun h => hq h.symm : N 7 ≠ n)
          go_wp2_with fail
          go_round
          case rel => exact ⟨7 + 1, by omega, rfl, Lib.hid (fun j hj => by
            by_cases h : j = 7
            · rw [h]; exact hq
            · exact HN.out j (by omega))⟩
          case measure => decide
      · by_cases hq : n = N 8
        · have hix := run_idx #[.string (N 0), .string (N 1), .string (N 2), .string (N 3), .string (N 4), .string (N 5), .string (N 6), .string (N 7), .string (N 8), .string (N 9), .string (N 10), .string (N 11), .string (N 12), .string (N 13), .string (N 14), .string (N 15), .string (N 16), .string (N 17)] 8 (.string (N 8)) (by decide) (by decide) rfl w
          have hqb := str_eq_t hq.symm
          have hno : P = some 8 := hP.trans (placeN_at _ 8 (by decide) (by rw [hq, ← hN 8, list_bs]))
          subst hno
          clear hP hq
          go_wp2_with fail
          go_ret2
          exact ⟨rfl, Below.refl _ _⟩
        · have hix := run_idx #[.string (N 0), .string (N 1), .string (N 2), .string (N 3), .string (N 4), .string (N 5), .string (N 6), .string (N 7), .string (N 8), .string (N 9), .string (N 10), .string (N 11), .string (N 12), .string (N 13), .string (N 14), .string (N 15), .string (N 16), .string (N 17)] 8 (.string (N 8)) (by decide) (by decide) rfl w
          have hqb := str_ne_f (fun h => hq h.symm : N 8 ≠ n)
          go_wp2_with fail
          go_round
          case rel => exact ⟨8 + 1, by omega, rfl, Lib.hid (fun j hj => by
            by_cases h : j = 8
            · rw [h]; exact hq
            · exact HN.out j (by omega))⟩
          case measure => decide
      · by_cases hq : n = N 9
        · have hix := run_idx #[.string (N 0), .string (N 1), .string (N 2), .string (N 3), .string (N 4), .string (N 5), .string (N 6), .string (N 7), .string (N 8), .string (N 9), .string (N 10), .string (N 11), .string (N 12), .string (N 13), .string (N 14), .string (N 15), .string (N 16), .string (N 17)] 9 (.string (N 9)) (by decide) (by decide) rfl w
          have hqb := str_eq_t hq.symm
          have hno : P = some 9 := hP.trans (placeN_at _ 9 (by decide) (by rw [hq, ← hN 9, list_bs]))
          subst hno
          clear hP hq
          go_wp2_with fail
          go_ret2
          exact ⟨rfl, Below.refl _ _⟩
        · have hix := run_idx #[.string (N 0), .string (N 1), .string (N 2), .string (N 3), .string (N 4), .string (N 5), .string (N 6), .string (N 7), .string (N 8), .string (N 9), .string (N 10), .string (N 11), .string (N 12), .string (N 13), .string (N 14), .string (N 15), .string (N 16), .string (N 17)] 9 (.string (N 9)) (by decide) (by decide) rfl w
          have hqb := str_ne_f (fun h => hq h.symm : N 9 ≠ n)
          go_wp2_with fail
          go_round
          case rel => exact ⟨9 + 1, by omega, rfl, Lib.hid (fun j hj => by
            by_cases h : j = 9
            · rw [h]; exact hq
            · exact HN.out j (by omega))⟩
          case measure => decide
      · by_cases hq : n = N 10
        · have hix := run_idx #[.string (N 0), .string (N 1), .string (N 2), .string (N 3), .string (N 4), .string (N 5), .string (N 6), .string (N 7), .string (N 8), .string (N 9), .string (N 10), .string (N 11), .string (N 12), .string (N 13), .string (N 14), .string (N 15), .string (N 16), .string (N 17)] 10 (.string (N 10)) (by decide) (by decide) rfl w
          have hqb := str_eq_t hq.symm
          have hno : P = some 10 := hP.trans (placeN_at _ 10 (by decide) (by rw [hq, ← hN 10, list_bs]))
          subst hno
          clear hP hq
          go_wp2_with fail
          go_ret2
          exact ⟨rfl, Below.refl _ _⟩
        · have hix := run_idx #[.string (N 0), .string (N 1), .string (N 2), .string (N 3), .string (N 4), .string (N 5), .string (N 6), .string (N 7), .string (N 8), .string (N 9), .string (N 10), .string (N 11), .string (N 12), .string (N 13), .string (N 14), .string (N 15), .string (N 16), .string (N 17)] 10 (.string (N 10)) (by decide) (by decide) rfl w
          have hqb := str_ne_f (fun h => hq h.symm : N 10 ≠ n)
          go_wp2_with fail
          go_round
          case rel => exact ⟨10 + 1, by omega, rfl, Lib.hid (fun j hj => by
            by_cases h : j = 10
            · rw [h]; exact hq
            · exact HN.out j (by omega))⟩
          case measure => decide
      · by_cases hq : n = N 11
        · have hix := run_idx #[.string (N 0), .string (N 1), .string (N 2), .string (N 3), .string (N 4), .string (N 5), .string (N 6), .string (N 7), .string (N 8), .string (N 9), .string (N 10), .string (N 11), .string (N 12), .string (N 13), .string (N 14), .string (N 15), .string (N 16), .string (N 17)] 11 (.string (N 11)) (by decide) (by decide) rfl w
          have hqb := str_eq_t hq.symm
          have hno : P = some 11 := hP.trans (placeN_at _ 11 (by decide) (by rw [hq, ← hN 11, list_bs]))
          subst hno
          clear hP hq
          go_wp2_with fail
          go_ret2
          exact ⟨rfl, Below.refl _ _⟩
        · have hix := run_idx #[.string (N 0), .string (N 1), .string (N 2), .string (N 3), .string (N 4), .string (N 5), .string (N 6), .string (N 7), .string (N 8), .string (N 9), .string (N 10), .string (N 11), .string (N 12), .string (N 13), .string (N 14), .string (N 15), .string (N 16), .string (N 17)] 11 (.string (N 11)) (by decide) (by decide) rfl w
          have hqb := str_ne_f (fun h => hq h.symm : N 11 ≠ n)
          go_wp2_with fail
          go_round
          case rel => exact ⟨11 + 1, by omega, rfl, Lib.hid (fun j hj => by
            by_cases h : j = 11
            · rw [h]; exact hq
            · exact HN.out j (by omega))⟩
          case measure => decide
      · by_cases hq : n = N 12
        · have hix := run_idx #[.string (N 0), .string (N 1), .string (N 2), .string (N 3), .string (N 4), .string (N 5), .string (N 6), .string (N 7), .string (N 8), .string (N 9), .string (N 10), .string (N 11), .string (N 12), .string (N 13), .string (N 14), .string (N 15), .string (N 16), .string (N 17)] 12 (.string (N 12)) (by decide) (by decide) rfl w
          have hqb := str_eq_t hq.symm
          have hno : P = some 12 := hP.trans (placeN_at _ 12 (by decide) (by rw [hq, ← hN 12, list_bs]))
          subst hno
          clear hP hq
          go_wp2_with fail
          go_ret2
          exact ⟨rfl, Below.refl _ _⟩
        · have hix := run_idx #[.string (N 0), .string (N 1), .string (N 2), .string (N 3), .string (N 4), .string (N 5), .string (N 6), .string (N 7), .string (N 8), .string (N 9), .string (N 10), .string (N 11), .string (N 12), .string (N 13), .string (N 14), .string (N 15), .string (N 16), .string (N 17)] 12 (.string (N 12)) (by decide) (by decide) rfl w
          have hqb := str_ne_f (fun h => hq h.symm : N 12 ≠ n)
          go_wp2_with fail
          go_round
          case rel => exact ⟨12 + 1, by omega, rfl, Lib.hid (fun j hj => by
            by_cases h : j = 12
            · rw [h]; exact hq
            · exact HN.out j (by omega))⟩
          case measure => decide
      · by_cases hq : n = N 13
        · have hix := run_idx #[.string (N 0), .string (N 1), .string (N 2), .string (N 3), .string (N 4), .string (N 5), .string (N 6), .string (N 7), .string (N 8), .string (N 9), .string (N 10), .string (N 11), .string (N 12), .string (N 13), .string (N 14), .string (N 15), .string (N 16), .string (N 17)] 13 (.string (N 13)) (by decide) (by decide) rfl w
          have hqb := str_eq_t hq.symm
          have hno : P = some 13 := hP.trans (placeN_at _ 13 (by decide) (by rw [hq, ← hN 13, list_bs]))
          subst hno
          clear hP hq
          go_wp2_with fail
          go_ret2
          exact ⟨rfl, Below.refl _ _⟩
        · have hix := run_idx #[.string (N 0), .string (N 1), .string (N 2), .string (N 3), .string (N 4), .string (N 5), .string (N 6), .string (N 7), .string (N 8), .string (N 9), .string (N 10), .string (N 11), .string (N 12), .string (N 13), .string (N 14), .string (N 15), .string (N 16), .string (N 17)] 13 (.string (N 13)) (by decide) (by decide) rfl w
          have hqb := str_ne_f (fun h => hq h.symm : N 13 ≠ n)
          go_wp2_with fail
          go_round
          case rel => exact ⟨13 + 1, by omega, rfl, Lib.hid (fun j hj => by
            by_cases h : j = 13
            · rw [h]; exact hq
            · exact HN.out j (by omega))⟩
          case measure => decide
      · by_cases hq : n = N 14
        · have hix := run_idx #[.string (N 0), .string (N 1), .string (N 2), .string (N 3), .string (N 4), .string (N 5), .string (N 6), .string (N 7), .string (N 8), .string (N 9), .string (N 10), .string (N 11), .string (N 12), .string (N 13), .string (N 14), .string (N 15), .string (N 16), .string (N 17)] 14 (.string (N 14)) (by decide) (by decide) rfl w
          have hqb := str_eq_t hq.symm
          have hno : P = some 14 := hP.trans (placeN_at _ 14 (by decide) (by rw [hq, ← hN 14, list_bs]))
          subst hno
          clear hP hq
          go_wp2_with fail
          go_ret2
          exact ⟨rfl, Below.refl _ _⟩
        · have hix := run_idx #[.string (N 0), .string (N 1), .string (N 2), .string (N 3), .string (N 4), .string (N 5), .string (N 6), .string (N 7), .string (N 8), .string (N 9), .string (N 10), .string (N 11), .string (N 12), .string (N 13), .string (N 14), .string (N 15), .string (N 16), .string (N 17)] 14 (.string (N 14)) (by decide) (by decide) rfl w
          have hqb := str_ne_f (fun h => hq h.symm : N 14 ≠ n)
          go_wp2_with fail
          go_round
          case rel => exact ⟨14 + 1, by omega, rfl, Lib.hid (fun j hj => by
            by_cases h : j = 14
            · rw [h]; exact hq
            · exact HN.out j (by omega))⟩
          case measure => decide
      · by_cases hq : n = N 15
        · have hix := run_idx #[.string (N 0), .string (N 1), .string (N 2), .string (N 3), .string (N 4), .string (N 5), .string (N 6), .string (N 7), .string (N 8), .string (N 9), .string (N 10), .string (N 11), .string (N 12), .string (N 13), .string (N 14), .string (N 15), .string (N 16), .string (N 17)] 15 (.string (N 15)) (by decide) (by decide) rfl w
          have hqb := str_eq_t hq.symm
          have hno : P = some 15 := hP.trans (placeN_at _ 15 (by decide) (by rw [hq, ← hN 15, list_bs]))
          subst hno
          clear hP hq
          go_wp2_with fail
          go_ret2
          exact ⟨rfl, Below.refl _ _⟩
        · have hix := run_idx #[.string (N 0), .string (N 1), .string (N 2), .string (N 3), .string (N 4), .string (N 5), .string (N 6), .string (N 7), .string (N 8), .string (N 9), .string (N 10), .string (N 11), .string (N 12), .string (N 13), .string (N 14), .string (N 15), .string (N 16), .string (N 17)] 15 (.string (N 15)) (by decide) (by decide) rfl w
          have hqb := str_ne_f (fun h => hq h.symm : N 15 ≠ n)
          go_wp2_with fail
          go_round
          case rel => exact ⟨15 + 1, by omega, rfl, Lib.hid (fun j hj => by
            by_cases h : j = 15
            · rw [h]; exact hq
            · exact HN.out j (by omega))⟩
          case measure => decide
      · by_cases hq : n = N 16
        · have hix := run_idx #[.string (N 0), .string (N 1), .string (N 2), .string (N 3), .string (N 4), .string (N 5), .string (N 6), .string (N 7), .string (N 8), .string (N 9), .string (N 10), .string (N 11), .string (N 12), .string (N 13), .string (N 14), .string (N 15), .string (N 16), .string (N 17)] 16 (.string (N 16)) (by decide) (by decide) rfl w
          have hqb := str_eq_t hq.symm
          have hno : P = some 16 := hP.trans (placeN_at _ 16 (by decide) (by rw [hq, ← hN 16, list_bs]))
          subst hno
          clear hP hq
          go_wp2_with fail
          go_ret2
          exact ⟨rfl, Below.refl _ _⟩
        · have hix := run_idx #[.string (N 0), .string (N 1), .string (N 2), .string (N 3), .string (N 4), .string (N 5), .string (N 6), .string (N 7), .string (N 8), .string (N 9), .string (N 10), .string (N 11), .string (N 12), .string (N 13), .string (N 14), .string (N 15), .string (N 16), .string (N 17)] 16 (.string (N 16)) (by decide) (by decide) rfl w
          have hqb := str_ne_f (fun h => hq h.symm : N 16 ≠ n)
          go_wp2_with fail
          go_round
          case rel => exact ⟨16 + 1, by omega, rfl, Lib.hid (fun j hj => by
            by_cases h : j = 16
            · rw [h]; exact hq
            · exact HN.out j (by omega))⟩
          case measure => decide
      · by_cases hq : n = N 17
        · have hix := run_idx #[.string (N 0), .string (N 1), .string (N 2), .string (N 3), .string (N 4), .string (N 5), .string (N 6), .string (N 7), .string (N 8), .string (N 9), .string (N 10), .string (N 11), .string (N 12), .string (N 13), .string (N 14), .string (N 15), .string (N 16), .string (N 17)] 17 (.string (N 17)) (by decide) (by decide) rfl w
          have hqb := str_eq_t hq.symm
          have hno : P = some 17 := hP.trans (placeN_at _ 17 (by decide) (by rw [hq, ← hN 17, list_bs]))
          subst hno
          clear hP hq
          go_wp2_with fail
          go_ret2
          exact ⟨rfl, Below.refl _ _⟩
        · have hix := run_idx #[.string (N 0), .string (N 1), .string (N 2), .string (N 3), .string (N 4), .string (N 5), .string (N 6), .string (N 7), .string (N 8), .string (N 9), .string (N 10), .string (N 11), .string (N 12), .string (N 13), .string (N 14), .string (N 15), .string (N 16), .string (N 17)] 17 (.string (N 17)) (by decide) (by decide) rfl w
          have hqb := str_ne_f (fun h => hq h.symm : N 17 ≠ n)
          go_wp2_with fail
          go_round
          case rel => exact ⟨17 + 1, by omega, rfl, Lib.hid (fun j hj => by
            by_cases h : j = 17
            · rw [h]; exact hq
            · exact HN.out j (by omega))⟩
          case measure => decide
    · obtain rfl : k = 18 := by omega
      have hno : P = none := by
        rw [hP]
        unfold placeN
        rw [List.find?_eq_none]
        intro i hi h9
        have h8 : n = N i := by rw [← hN i]; apply ba_ext; rw [list_bs]; exact (beq_iff_eq.1 h9).symm
        exact HN.out i (List.mem_range.1 hi) h8
      subst hno
      clear hP
      go_wp2_with fail
      go_ret2
      exact ⟨rfl, Below.refl _ _⟩

set_option maxHeartbeats 1000000 in
theorem told_ret (e : Int) (g : Bool) (B : Bool) (hB : B = (decide (0 ≤ e ∧ e < 18) && (g == (e == 0)))) : Ret 21 #[.int .i64 e, .bool g] (.bool B) := by
  intro w
  by_cases h : 0 ≤ e ∧ e < 18
  · have c1 := known_ret e true (by rw [decide_eq_true h])
    rw [decide_eq_true h, Bool.true_and] at hB
    subst hB
    go_enter Tryd.func21, Tryd.ntmps21
    go_wp2_with fail
    refine (c1).calls ?_
    go_wp2_with fail
    go_ret
    exact ⟨rfl, rfl⟩
  · have c1 := known_ret e false (by rw [decide_eq_false h])
    rw [decide_eq_false h, Bool.false_and] at hB
    subst hB
    go_enter Tryd.func21, Tryd.ntmps21
    go_wp2_with fail
    refine (c1).calls ?_
    go_wp2_with fail
    go_ret
    exact ⟨rfl, rfl⟩
end Fault
end Go.Proofs.YtcdjpdncgaeinaaDoor
