/- Joined texts. -/
-- PACK: YtgfdomdbjiflmaaDoorEq3 YtgfdomdbjiflmaaDoorScan
import Derived.Test.YtgfdomdbjiflmaaDoorDj27
import Derived.Test.YtgfdomdbjiflmaaDoorDj5
import Derived.Laws.BytesArg

/- Package equal: Scan, Nought, Pick. -/
namespace Go.Proofs.YtgfdomdbjiflmaaDoor
open Go.RowKit
namespace Eql

/-- all sixteen cells are 0 -/
def allZ (f : Nat → Nat) : Bool := (List.range 16).all fun j => f j == 0
theorem allZ_iff (f : Nat → Nat) : allZ f = true ↔ ∀ j, j < 16 → f j = 0 := by
  unfold allZ
  rw [List.all_eq_true]
  constructor
  · intro h j hj; exact beq_iff_eq.1 (h j (List.mem_range.2 hj))
  · intro h j hj; exact beq_iff_eq.2 (h j (List.mem_range.1 hj))

theorem since_drewN {W0 w : World} (h : Since W0 w) (n : Nat) : Since W0 (w.drewN n) := h.step ⟨rfl, rfl, rfl, Nat.le_refl _, fun _ _ => rfl⟩
set_option maxRecDepth 100000 in
theorem eq16 (f : Nat → Nat) : ∀ w : World, (Op.equalIn 10000 109 (.agg #[.int .u8 (f 0 : Nat), .int .u8 (f 1 : Nat), .int .u8 (f 2 : Nat), .int .u8 (f 3 : Nat), .int .u8 (f 4 : Nat), .int .u8 (f 5 : Nat), .int .u8 (f 6 : Nat), .int .u8 (f 7 : Nat), .int .u8 (f 8 : Nat), .int .u8 (f 9 : Nat), .int .u8 (f 10 : Nat), .int .u8 (f 11 : Nat), .int .u8 (f 12 : Nat), .int .u8 (f 13 : Nat), .int .u8 (f 14 : Nat), .int .u8 (f 15 : Nat)])
    (.agg #[.int .u8 0, .int .u8 0, .int .u8 0, .int .u8 0, .int .u8 0, .int .u8 0, .int .u8 0, .int .u8 0, .int .u8 0, .int .u8 0, .int .u8 0, .int .u8 0, .int .u8 0, .int .u8 0, .int .u8 0, .int .u8 0])).run Tryd.prog w = .ok (allZ f) w := by
  intro w
  have h := run_equalIn_array (P := Tryd.prog) w 9998 109 5 16 .u8 #[.int .u8 (f 0 : Nat), .int .u8 (f 1 : Nat), .int .u8 (f 2 : Nat), .int .u8 (f 3 : Nat), .int .u8 (f 4 : Nat), .int .u8 (f 5 : Nat), .int .u8 (f 6 : Nat), .int .u8 (f 7 : Nat), .int .u8 (f 8 : Nat), .int .u8 (f 9 : Nat), .int .u8 (f 10 : Nat), .int .u8 (f 11 : Nat), .int .u8 (f 12 : Nat), .int .u8 (f 13 : Nat), .int .u8 (f 14 : Nat), .int .u8 (f 15 : Nat)]
    #[.int .u8 0, .int .u8 0, .int .u8 0, .int .u8 0, .int .u8 0, .int .u8 0, .int .u8 0, .int .u8 0, .int .u8 0, .int .u8 0, .int .u8 0, .int .u8 0, .int .u8 0, .int .u8 0, .int .u8 0, .int .u8 0] (fun i => (f i : Nat)) (fun _ => 0) (by kernel_rfl) (by kernel_rfl) (fun w => by kernel_rfl) (fun w => by kernel_rfl)
    (fun i hi => by
        match i, hi with
        | 0, _ | 1, _ | 2, _ | 3, _ | 4, _ | 5, _ | 6, _ | 7, _ | 8, _ | 9, _ | 10, _ | 11, _ | 12, _ | 13, _ | 14, _ | 15, _ => rfl
        | n + 16, hi => omega)
    (fun i hi => by
        match i, hi with
        | 0, _ | 1, _ | 2, _ | 3, _ | 4, _ | 5, _ | 6, _ | 7, _ | 8, _ | 9, _ | 10, _ | 11, _ | 12, _ | 13, _ | 14, _ | 15, _ => rfl
        | n + 16, hi => omega)
  have he : ((List.range 16).all fun i => ((f i : Nat) : Int) == 0) = allZ f := by
    unfold allZ
    congr 1
    funext i
    rw [Bool.eq_iff_iff]
    simp
  rw [he] at h
  exact h

set_option maxRecDepth 100000 in
set_option maxHeartbeats 2000000 in
theorem scan_any (a b : ByteArray) (hm : a.size ≤ 140737488355327) (hm2 : b.size ≤ 140737488355327) (n : Nat) (hn : n = max a.size b.size) (B : Bool) (hB : B = decide (unl a.data.toList b.data.toList n = 0)) : Mak 62 #[.string a, .string b] (.tuple #[.bool B, .int .i64 (n : Int)]) := by
  intro w
  have hz : allZ (fun j => orA a.data.toList b.data.toList j n) = B := by
    rw [hB]
    by_cases h : unl a.data.toList b.data.toList n = 0
    · rw [decide_eq_true h, allZ_iff]; exact (orA_zero _ _ _).2 h
    · rw [decide_eq_false h]
      cases hc : allZ (fun j => orA a.data.toList b.data.toList j n) with
      | false => rfl
      | true => exact absurd ((orA_zero _ _ _).1 ((allZ_iff _).1 hc)) h
  have hz16 : (w.alloc (.cells #[.int .u8 0, .int .u8 0, .int .u8 0, .int .u8 0, .int .u8 0, .int .u8 0, .int .u8 0, .int .u8 0, .int .u8 0, .int .u8 0, .int .u8 0, .int .u8 0, .int .u8 0, .int .u8 0, .int .u8 0, .int .u8 0] 109)).rowIs w.heap.size 109 16 (fun _ => .int .u8 0) :=
    World.rowIs_alloc w _ _ (fun _ => .int .u8 0) (fun i hi => by
        match i, hi with
        | 0, _ | 1, _ | 2, _ | 3, _ | 4, _ | 5, _ | 6, _ | 7, _ | 8, _ | 9, _ | 10, _ | 11, _ | 12, _ | 13, _ | 14, _ | 15, _ => rfl
        | n + 16, hi => simp at hi; omega)
  have hcall := each_scan a b n hn (by omega) (by omega) (.pointer (some ⟨w.heap.size, 0, none⟩)) (.pointer (some ⟨w.heap.size + 1, 0, none⟩))
    (fun i w' => (Bits w' w.heap.size (fun j => orA a.data.toList b.data.toList j i) ∧ Cnt w' (w.heap.size + 1) (i : Nat)) ∧ Since w w')
    (fun i w' h => ⟨⟨World.rowIs.drew h.1.1, World.rowIs.drew h.1.2⟩, Since.drew h.2⟩)
    (fun i w' hi h => scan1 i _ _ i _ (fun j => orA a.data.toList b.data.toList j (i + 1)) w' w h.1.1 h.1.2 (by omega) (by omega) (df_lt _ _ _) (fun j => orA_lt _ _ _ _) (Nat.le_refl _) h.2 (fun j => rfl))
    ((w.alloc (.cells #[.int .u8 0, .int .u8 0, .int .u8 0, .int .u8 0, .int .u8 0, .int .u8 0, .int .u8 0, .int .u8 0, .int .u8 0, .int .u8 0, .int .u8 0, .int .u8 0, .int .u8 0, .int .u8 0, .int .u8 0, .int .u8 0] 109)).alloc (.cells #[.int .i64 0] 3))
    ⟨⟨(World.rowIs.alloc hz16 _).congr (fun j _ => rfl), by
      have h := World.rowIs_alloc (w.alloc (.cells #[.int .u8 0, .int .u8 0, .int .u8 0, .int .u8 0, .int .u8 0, .int .u8 0, .int .u8 0, .int .u8 0, .int .u8 0, .int .u8 0, .int .u8 0, .int .u8 0, .int .u8 0, .int .u8 0, .int .u8 0, .int .u8 0] 109)) #[.int .i64 0] 3 (fun _ => .int .i64 0) (fun i hi => by
        obtain rfl : i = 0 := by simp at hi; omega
        rfl)
      simpa [Cnt] using h⟩, ((Since.refl w).alloc _).alloc _⟩
  have HC := Lib.hid hcall
  have Hz := Lib.hid hz
  clear hz
  have Hn := Lib.hid hn
  clear hn
  clear hcall hz16 hB
  go_enter Tryd.func62, Tryd.ntmps62
  go_wp2_with fail
  refine HC.out.mono ?_
  rintro e w2 ⟨rfl, ⟨hb, hc⟩, hs⟩
  have hcell := World.rowIs.cell hc (i := 0) (by decide)
  obtain ⟨f, hf⟩ : ∃ f : Nat → Nat, f = fun j => orA a.data.toList b.data.toList j n := ⟨_, rfl⟩
  rw [← hf] at hb
  have hzz : allZ f = B := by rw [hf]; exact Hz.out
  clear hf
  have k0 := World.rowIs.cell hb (i := 0) (by decide)
  have k1 := World.rowIs.cell hb (i := 1) (by decide)
  have k2 := World.rowIs.cell hb (i := 2) (by decide)
  have k3 := World.rowIs.cell hb (i := 3) (by decide)
  have k4 := World.rowIs.cell hb (i := 4) (by decide)
  have k5 := World.rowIs.cell hb (i := 5) (by decide)
  have k6 := World.rowIs.cell hb (i := 6) (by decide)
  have k7 := World.rowIs.cell hb (i := 7) (by decide)
  have k8 := World.rowIs.cell hb (i := 8) (by decide)
  have k9 := World.rowIs.cell hb (i := 9) (by decide)
  have k10 := World.rowIs.cell hb (i := 10) (by decide)
  have k11 := World.rowIs.cell hb (i := 11) (by decide)
  have k12 := World.rowIs.cell hb (i := 12) (by decide)
  have k13 := World.rowIs.cell hb (i := 13) (by decide)
  have k14 := World.rowIs.cell hb (i := 14) (by decide)
  have k15 := World.rowIs.cell hb (i := 15) (by decide)
  have Hb := Lib.hid hb
  clear hb
  have Hc := Lib.hid hc
  clear hc
  have Hs := Lib.hid hs
  clear hs
  have Hzz := Lib.hid hzz
  clear hzz
  have heq := eq16 f
  rw [Hzz.out] at heq
  go_wp2_with fail
  go_quiet (fail)
  go_wp2_with fail
  go_ret2
  exact ⟨rfl, since_drewN Hs.out _⟩
end Eql
end Go.Proofs.YtgfdomdbjiflmaaDoor

/- equal.Scan: whether two texts are the same. -/
namespace Go.Proofs.YtgfdomdbjiflmaaDoor
open Go.RowKit
namespace Scan
open Eql
theorem unl_self (a : List UInt8) (n : Nat) (h : n ≤ a.length) : unl a a n = 0 := by
  induction n with
  | zero => rfl
  | succ n ih =>
    show unl a a n + _ = 0
    have hd : df a a n = 0 := by unfold df; rw [if_pos ⟨by omega, by omega⟩, Nat.xor_self]
    rw [ih (by omega), if_pos hd]
theorem unl_zero (a b : List UInt8) (n : Nat) (h : unl a b n = 0) : ∀ i, i < n → df a b i = 0 := by
  induction n with
  | zero => intro i hi; omega
  | succ n ih =>
    have h0 : unl a b n + (if df a b n = 0 then 0 else 1) = 0 := h
    intro i hi
    by_cases hin : i = n
    · subst hin
      apply Classical.byContradiction
      intro h3
      rw [if_neg h3] at h0
      omega
    · exact ih (by omega) i (by omega)
theorem unl_eq (a b : List UInt8) (h : unl a b (max a.length b.length) = 0) : a = b := by
  have h1 := unl_zero a b _ h
  have hl : a.length = b.length := by
    apply Classical.byContradiction
    intro hne
    have h2 := h1 (min a.length b.length) (by omega)
    unfold df at h2
    rw [if_neg (by omega)] at h2
    cases h2
  apply List.ext_getElem hl
  intro i ha hb
  have h2 := h1 i (by omega)
  unfold df at h2
  rw [if_pos ⟨ha, hb⟩] at h2
  have h3 : (a.getD i 0).toNat = (b.getD i 0).toNat := by
    have h4 : (a.getD i 0).toNat ^^^ (b.getD i 0).toNat ^^^ (b.getD i 0).toNat = (b.getD i 0).toNat := by rw [h2, Nat.zero_xor]
    rwa [Nat.xor_assoc, Nat.xor_self, Nat.xor_zero] at h4
  have h5 := UInt8.toNat_inj.1 h3
  simpa [List.getD, ha, hb] using h5
theorem scan_m (a b : ByteArray) (hm : a.size ≤ 140737488355327) (hm2 : b.size ≤ 140737488355327) (q : Bool) (hq : q = decide (a = b)) : ∃ n : Int, Mak 62 #[.string a, .string b] (.tuple #[.bool q, .int .i64 n]) := by
  refine ⟨_, scan_any a b hm hm2 _ rfl q ?_⟩
  rw [hq]
  congr 1
  refine propext ⟨fun h => ?_, fun h => ?_⟩
  · subst h
    rw [Nat.max_self]
    exact unl_self _ _ (Nat.le_refl _)
  · exact ba_ext (unl_eq _ _ h)
end Scan
end Go.Proofs.YtgfdomdbjiflmaaDoor
