/- Package equal: Scan, Nought, Pick. -/
import Derived.Test.YtldipjlepofdgaaEq2
import Derived.Test.YtldipjlepofdgaaArrEq
import Derived.Laws.BytesArg
namespace Go.Proofs.Ytldipjlepofdgaa
open Go.RowKit
namespace Eql

/-- all sixteen cells are 0 -/
def allZ (f : Nat → Nat) : Bool := (List.range 16).all fun j => f j == 0
theorem allZ_iff (f : Nat → Nat) : allZ f = true ↔ ∀ j, j < 16 → f j = 0 := by
  unfold allZ
  rw [List.all_eq_true]
  constructor
  · intro h j hj; exact beq_iff_eq.1 (h j (List.mem_range.2 hj))
  · intro h j hj; exact beq_iff_eq.2 (h j (List.mem_range.1 hj))

theorem since_drewN {W0 w : World} (h : Since W0 w) (n : Nat) : Since W0 (w.drewN n) := h.step ⟨rfl, rfl, rfl, Nat.le_refl _, fun _ _ => rfl⟩
theorem eq16 (f : Nat → Nat) : ∀ w : World, (Op.equalIn 10000 62 (.agg #[.int .u8 (f 0 : Nat), .int .u8 (f 1 : Nat), .int .u8 (f 2 : Nat), .int .u8 (f 3 : Nat), .int .u8 (f 4 : Nat), .int .u8 (f 5 : Nat), .int .u8 (f 6 : Nat), .int .u8 (f 7 : Nat), .int .u8 (f 8 : Nat), .int .u8 (f 9 : Nat), .int .u8 (f 10 : Nat), .int .u8 (f 11 : Nat), .int .u8 (f 12 : Nat), .int .u8 (f 13 : Nat), .int .u8 (f 14 : Nat), .int .u8 (f 15 : Nat)])
    (.agg #[.int .u8 0, .int .u8 0, .int .u8 0, .int .u8 0, .int .u8 0, .int .u8 0, .int .u8 0, .int .u8 0, .int .u8 0, .int .u8 0, .int .u8 0, .int .u8 0, .int .u8 0, .int .u8 0, .int .u8 0, .int .u8 0])).run Try.prog w = .ok (allZ f) w := by
  intro w
  have h := run_equalIn_array (P := Try.prog) w 9998 62 5 16 .u8 #[.int .u8 (f 0 : Nat), .int .u8 (f 1 : Nat), .int .u8 (f 2 : Nat), .int .u8 (f 3 : Nat), .int .u8 (f 4 : Nat), .int .u8 (f 5 : Nat), .int .u8 (f 6 : Nat), .int .u8 (f 7 : Nat), .int .u8 (f 8 : Nat), .int .u8 (f 9 : Nat), .int .u8 (f 10 : Nat), .int .u8 (f 11 : Nat), .int .u8 (f 12 : Nat), .int .u8 (f 13 : Nat), .int .u8 (f 14 : Nat), .int .u8 (f 15 : Nat)]
    #[.int .u8 0, .int .u8 0, .int .u8 0, .int .u8 0, .int .u8 0, .int .u8 0, .int .u8 0, .int .u8 0, .int .u8 0, .int .u8 0, .int .u8 0, .int .u8 0, .int .u8 0, .int .u8 0, .int .u8 0, .int .u8 0] (fun i => (f i : Nat)) (fun _ => 0) (by kernel_rfl) (by kernel_rfl) (fun w => by kernel_rfl) (fun w => by kernel_rfl)
    (fun i hi => by
        match i, hi with
        | 0, _ | 1, _ | 2, _ | 3, _ | 4, _ | 5, _ | 6, _ | 7, _ | 8, _ | 9, _ | 10, _ | 11, _ | 12, _ | 13, _ | 14, _ | 15, _ => rfl
        | n + 16, hi => omega)
    (fun i hi => by
        match i, hi with
        | 0, _ | 1, _ | 2, _ | 3, _ | 4, _ | 5, _ | 6, _ | 7, _ | 8, _ | 9, _ | 10, _ | 11, _ | 12, _ | 13, _ | 14, _ | 15, _ => rfl
        | n + 16, hi => omega)
  have he : ((List.range 16).all fun i => ((f i : Nat) : Int) == 0) = allZ f := by
    unfold allZ
    congr 1
    funext i
    rw [Bool.eq_iff_iff]
    simp
  rw [he] at h
  exact h

set_option maxRecDepth 100000 in
set_option maxHeartbeats 2000000 in
theorem scan_any (a b : ByteArray) (hm : a.size ≤ 140737488355327) (hm2 : b.size ≤ 140737488355327) (n : Nat) (hn : n = max a.size b.size) (B : Bool) (hB : B = decide (unl a.data.toList b.data.toList n = 0)) : Mak 48 #[.string a, .string b] (.tuple #[.bool B, .int .i64 (n : Int)]) := by
  intro w
  have hz : allZ (fun j => orA a.data.toList b.data.toList j n) = B := by
    rw [hB]
    by_cases h : unl a.data.toList b.data.toList n = 0
    · rw [decide_eq_true h, allZ_iff]; exact (orA_zero _ _ _).2 h
    · rw [decide_eq_false h]
      cases hc : allZ (fun j => orA a.data.toList b.data.toList j n) with
      | false => rfl
      | true => exact absurd ((orA_zero _ _ _).1 ((allZ_iff _).1 hc)) h
  have hz16 : (w.alloc (.cells #[.int .u8 0, .int .u8 0, .int .u8 0, .int .u8 0, .int .u8 0, .int .u8 0, .int .u8 0, .int .u8 0, .int .u8 0, .int .u8 0, .int .u8 0, .int .u8 0, .int .u8 0, .int .u8 0, .int .u8 0, .int .u8 0] 62)).rowIs w.heap.size 62 16 (fun _ => .int .u8 0) :=
    World.rowIs_alloc w _ _ (fun _ => .int .u8 0) (fun i hi => by
        match i, hi with
        | 0, _ | 1, _ | 2, _ | 3, _ | 4, _ | 5, _ | 6, _ | 7, _ | 8, _ | 9, _ | 10, _ | 11, _ | 12, _ | 13, _ | 14, _ | 15, _ => rfl
        | n + 16, hi => simp at hi; omega)
  have hcall := each_scan a b n hn (by omega) (by omega) (.pointer (some ⟨w.heap.size, 0, none⟩)) (.pointer (some ⟨w.heap.size + 1, 0, none⟩))
    (fun i w' => (Bits w' w.heap.size (fun j => orA a.data.toList b.data.toList j i) ∧ Cnt w' (w.heap.size + 1) (i : Nat)) ∧ Since w w')
    (fun i w' h => ⟨⟨World.rowIs.drew h.1.1, World.rowIs.drew h.1.2⟩, Since.drew h.2⟩)
    (fun i w' hi h => scan1 i _ _ i _ (fun j => orA a.data.toList b.data.toList j (i + 1)) w' w h.1.1 h.1.2 (by omega) (by omega) (df_lt _ _ _) (fun j => orA_lt _ _ _ _) (Nat.le_refl _) h.2 (fun j => rfl))
    ((w.alloc (.cells #[.int .u8 0, .int .u8 0, .int .u8 0, .int .u8 0, .int .u8 0, .int .u8 0, .int .u8 0, .int .u8 0, .int .u8 0, .int .u8 0, .int .u8 0, .int .u8 0, .int .u8 0, .int .u8 0, .int .u8 0, .int .u8 0] 62)).alloc (.cells #[.int .i64 0] 3))
    ⟨⟨(World.rowIs.alloc hz16 _).congr (fun j _ => rfl), by
      have h := World.rowIs_alloc (w.alloc (.cells #[.int .u8 0, .int .u8 0, .int .u8 0, .int .u8 0, .int .u8 0, .int .u8 0, .int .u8 0, .int .u8 0, .int .u8 0, .int .u8 0, .int .u8 0, .int .u8 0, .int .u8 0, .int .u8 0, .int .u8 0, .int .u8 0] 62)) #[.int .i64 0] 3 (fun _ => .int .i64 0) (fun i hi => by
        obtain rfl : i = 0 := by simp at hi; omega
        rfl)
      simpa [Cnt] using h⟩, ((Since.refl w).alloc _).alloc _⟩
  have HC := Lib.hid hcall
  have Hz := Lib.hid hz
  clear hz
  have Hn := Lib.hid hn
  clear hn
  clear hcall hz16 hB
  go_enter Try.func48, Try.ntmps48
  go_wp2_with fail
  refine HC.out.mono ?_
  rintro e w2 ⟨rfl, ⟨hb, hc⟩, hs⟩
  have hcell := World.rowIs.cell hc (i := 0) (by decide)
  obtain ⟨f, hf⟩ : ∃ f : Nat → Nat, f = fun j => orA a.data.toList b.data.toList j n := ⟨_, rfl⟩
  rw [← hf] at hb
  have hzz : allZ f = B := by rw [hf]; exact Hz.out
  clear hf
  have k0 := World.rowIs.cell hb (i := 0) (by decide)
  have k1 := World.rowIs.cell hb (i := 1) (by decide)
  have k2 := World.rowIs.cell hb (i := 2) (by decide)
  have k3 := World.rowIs.cell hb (i := 3) (by decide)
  have k4 := World.rowIs.cell hb (i := 4) (by decide)
  have k5 := World.rowIs.cell hb (i := 5) (by decide)
  have k6 := World.rowIs.cell hb (i := 6) (by decide)
  have k7 := World.rowIs.cell hb (i := 7) (by decide)
  have k8 := World.rowIs.cell hb (i := 8) (by decide)
  have k9 := World.rowIs.cell hb (i := 9) (by decide)
  have k10 := World.rowIs.cell hb (i := 10) (by decide)
  have k11 := World.rowIs.cell hb (i := 11) (by decide)
  have k12 := World.rowIs.cell hb (i := 12) (by decide)
  have k13 := World.rowIs.cell hb (i := 13) (by decide)
  have k14 := World.rowIs.cell hb (i := 14) (by decide)
  have k15 := World.rowIs.cell hb (i := 15) (by decide)
  have Hb := Lib.hid hb
  clear hb
  have Hc := Lib.hid hc
  clear hc
  have Hs := Lib.hid hs
  clear hs
  have Hzz := Lib.hid hzz
  clear hzz
  have heq := eq16 f
  rw [Hzz.out] at heq
  go_wp2_with fail
  go_quiet (fail)
  go_wp2_with fail
  go_ret2
  exact ⟨rfl, since_drewN Hs.out _⟩
end Eql
end Go.Proofs.Ytldipjlepofdgaa
