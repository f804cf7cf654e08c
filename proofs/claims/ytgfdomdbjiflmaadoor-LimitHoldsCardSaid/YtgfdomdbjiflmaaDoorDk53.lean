/- Joined texts. -/
-- PACK: YtgfdomdbjiflmaaDoorHeader YtgfdomdbjiflmaaDoorHeader2 YtgfdomdbjiflmaaDoorHeader3 YtgfdomdbjiflmaaDoorHeader4 YtgfdomdbjiflmaaDoorHeaderM
import Derived.Test.YtgfdomdbjiflmaaDoorDk28
import Derived.Test.YtgfdomdbjiflmaaDoorDk45
import Derived.Test.YtgfdomdbjiflmaaDoorDk23
import Derived.Test.YtgfdomdbjiflmaaDoorDk27
import Derived.Test.YtgfdomdbjiflmaaDoorDk33
import Derived.Deep.RegionHeld3
import Derived.BigQuiet

/- Package header and its reference: Encode. -/
namespace Go.Proofs.YtgfdomdbjiflmaaDoor
open Go.RowKit
namespace Header
def KH : World → Prop := fun w => Table.Tabs w ∧ Kind.Tabs w
instance : Kp KH := ⟨fun h hb => ⟨Kp.keep h.1 hb, Kp.keep h.2 hb⟩⟩
theorem most_h (l : ByteArray) (X : Int) (hX : X = Kind.mostN l.data.toList) : KMk KH 132 #[.string l] (.int .i64 X) := (Kind.most_k l X hX).weak (fun _ h => h.2)
theorem check_h (u m v e l : ByteArray) (x : Int) (hx : x = if Table.okB u.data.toList m.data.toList v.data.toList e.data.toList l.data.toList then 0 else 12) : KMk KH 133 #[.agg #[.string u, .string m, .string v, .string e], .string l] (.int .i64 x) := (Table.check_k u m v e l x hx).weak (fun _ h => h.1)
/-- what is put together -/
structure Cats (D1 u l m v e D2 X : ByteArray) (X1 X2 X3 X4 X5 X6 X7 : ByteArray) : Prop where
  e1 : (⟨#[68]⟩ : ByteArray) ++ D1 = X1
  e2 : X1 ++ u = X2
  e3 : X2 ++ l = X3
  e4 : X3 ++ m = X4
  e5 : X4 ++ v = X5
  e6 : X5 ++ e = X6
  e7 : X6 ++ D2 = X7
  e8 : X7 ++ (⟨#[48, 48]⟩ : ByteArray) = X
  s : D1.size ≤ 100 ∧ u.size ≤ 100 ∧ l.size ≤ 100 ∧ m.size ≤ 100 ∧ v.size ≤ 100 ∧ e.size ≤ 100 ∧ D2.size ≤ 100 ∧ X1.size ≤ 1000 ∧ X2.size ≤ 1000 ∧ X3.size ≤ 1000 ∧ X4.size ≤ 1000 ∧ X5.size ≤ 1000 ∧ X6.size ≤ 1000 ∧ X7.size ≤ 1000
def catS (D1 u l m v e D2 : ByteArray) : ByteArray := (⟨#[68]⟩ : ByteArray) ++ D1 ++ u ++ l ++ m ++ v ++ e ++ D2 ++ (⟨#[48, 48]⟩ : ByteArray)
theorem cats_any (D1 u l m v e D2 : ByteArray) (h : D1.size ≤ 100 ∧ u.size ≤ 100 ∧ l.size ≤ 100 ∧ m.size ≤ 100 ∧ v.size ≤ 100 ∧ e.size ≤ 100 ∧ D2.size ≤ 100) : ∃ X1 X2 X3 X4 X5 X6 X7, Cats D1 u l m v e D2 (catS D1 u l m v e D2) X1 X2 X3 X4 X5 X6 X7 := by
  obtain ⟨h1, h2, h3, h4, h5, h6, h7⟩ := h
  have h0 : (⟨#[68]⟩ : ByteArray).size = 1 := rfl
  refine ⟨_, _, _, _, _, _, _, rfl, rfl, rfl, rfl, rfl, rfl, rfl, rfl, h1, h2, h3, h4, h5, h6, h7, ?_⟩
  simp only [ByteArray.size_append]
  omega
def hdV (n k : Int) (l u m v e : ByteArray) : Value := .agg #[.int .i64 n, .string l, .int .i64 k, .string u, .string m, .string v, .string e]
def decS (W n : Nat) : ByteArray := strOfNums ((List.range W).map fun i => Dig.dg n (W - 1 - i))
theorem decS_size (W n : Nat) : (decS W n).size = W := by unfold decS; rw [strOfNums_size]; simp
/-- the length, the letter and the number of options may be -/
def InN (n k : Int) (l : List UInt8) : Prop := 0 ≤ n ∧ n ≤ 9999 ∧ 0 ≤ k ∧ k ≤ 99 ∧ Kind.mostN l ≠ 0
instance (n k : Int) (l : List UInt8) : Decidable (InN n k l) := by unfold InN; infer_instance
/-- a header's signs, and why there are none -/
def encX (n k : Int) (l u m v e : ByteArray) : ByteArray := if InN n k l.data.toList ∧ Table.okB u.data.toList m.data.toList v.data.toList e.data.toList l.data.toList = true then catS (decS 4 n.toNat) u l m v e (decS 2 k.toNat) else ⟨#[]⟩
def encE (n k : Int) (l u m v e : ByteArray) : Int := if InN n k l.data.toList then (if Table.okB u.data.toList m.data.toList v.data.toList e.data.toList l.data.toList then 0 else 12) else 1
theorem most_len (l : ByteArray) (h : Kind.mostN l.data.toList ≠ 0) : l.size = 1 := by
  have hall : ∀ r ∈ Kind.rows, r.2.2.1.length = 1 := by decide +kernel
  apply Classical.byContradiction
  intro h1
  apply h
  unfold Kind.mostN Kind.mostF
  have e : ((Kind.rows.take 11).filter (fun r => r.2.2.1 == l.data.toList)) = [] := by
    rw [List.filter_eq_nil_iff]
    intro r hr hq
    rw [beq_iff_eq] at hq
    have h2 := hall r (List.mem_of_mem_take hr)
    rw [hq] at h2
    exact h1 h2
  rw [e]; rfl
end Header
end Go.Proofs.YtgfdomdbjiflmaaDoor

/- Package header and its reference: Decode. -/
namespace Go.Proofs.YtgfdomdbjiflmaaDoor
open Go.RowKit
namespace Header
def Z7 : Array Value := #[.int .i64 0, .string ⟨#[]⟩, .int .i64 0, .string ⟨#[]⟩, .string ⟨#[]⟩, .string ⟨#[]⟩, .string ⟨#[]⟩]
def C7 (n k : Int) (l u m v e : ByteArray) : Array Value := #[.int .i64 n, .string l, .int .i64 k, .string u, .string m, .string v, .string e]
theorem c7_one (n k : Int) (l u m v e : ByteArray) : (C7 n k l u m v e).all (·.oneCell') = true := by
  rw [Array.all_eq_true]
  intro i hi
  match i, hi with
  | 0, _ | 1, _ | 2, _ | 3, _ | 4, _ | 5, _ | 6, _ => rfl
set_option maxRecDepth 100000 in
theorem c7_info (n k : Int) (l u m v e : ByteArray) : (Tryd.prog.info? 138).map (·.size) = some (C7 n k l u m v e).size := by kernel_rfl
/-- the pieces of a text -/
structure Cut7 (s P1 P2 L U M V E A Z : ByteArray) : Prop where
  h : 16 ≤ s.size
  hm : s.size ≤ 1000000
  p1 : s.extract 1 5 = P1
  p2 : s.extract 12 14 = P2
  l : s.extract 7 8 = L
  u : s.extract 5 7 = U
  m : s.extract 8 9 = M
  v : s.extract 9 11 = V
  e : s.extract 11 12 = E
  a : s.extract 0 1 = A
  z : s.extract 14 16 = Z
set_option maxRecDepth 100000 in
theorem dec_short (s : ByteArray) (h : s.size < 16) : Mak 113 #[.string s] (.tuple #[.agg Z7, .int .i64 5]) := by
  intro w
  have t1 : decide ((s.size : Int) < 16) = true := decide_eq_true (by omega)
  have HB := Lib.hid (heap_alloc_new w (.cells Z7 138))
  unfold Z7 at HB
  go_enter Tryd.func113, Tryd.ntmps113
  go_wp2_with (refine wpList_store_row rfl 138 _ _ rfl w.heap.size (C7 0 0 ⟨#[]⟩ ⟨#[]⟩ ⟨#[]⟩ ⟨#[]⟩ ⟨#[]⟩) (by rfl) (by rfl) _ _ HB.out (c7_info _ _ _ _ _ _ _) rfl (c7_one _ _ _ _ _ _ _) ?_)
  exact bodyPost_ret (v := .tuple #[.agg Z7, .int .i64 5]) (results_cell_tmp2 Tryd.results113 _ _ _ _ _ _ _ _ rfl rfl (setRow_heap _ _ _ _ _ _ HB.out) Tryd.underlying138 rfl (c7_info _ _ _ _ _ _ _)) rfl ⟨rfl, below_setRow ((Since.refl w).alloc _) (Nat.le_refl _) _⟩
set_option maxRecDepth 100000 in
set_option maxHeartbeats 8000000 in
theorem dec_form (s P1 P2 L U M V E A Z : ByteArray) (h : Cut7 s P1 P2 L U M V E A Z) (N1 N2 X : Int) (b1 b2 p q : Bool) (hp : (A.toList == [68]) = p) (hq : (Z.toList == [48, 48]) = q) (hX : (p && b1 && b2 && q) = true → (X == 0) = true)
    (c1 : Ret 131 #[.string P1] (.tuple #[.int .i64 N1, .bool b1])) (c2 : Ret 131 #[.string P2] (.tuple #[.int .i64 N2, .bool b2])) (c3 : KMk KH 132 #[.string L] (.int .i64 X)) : KMk KH 113 #[.string s] (.tuple #[.agg Z7, .int .i64 5]) := by
  intro w hT
  obtain ⟨h16, hm, e1, e2, e3, e4, e5, e6, e7, e8, e9⟩ := h
  have t1 : decide ((s.size : Int) < 16) = false := decide_eq_false (by omega)
  have i0 : (1 : Int) ≤ (s.size : Int) := by omega
  have i1 : (5 : Int) ≤ (s.size : Int) := by omega
  have i2 : (7 : Int) ≤ (s.size : Int) := by omega
  have i3 : (8 : Int) ≤ (s.size : Int) := by omega
  have i4 : (9 : Int) ≤ (s.size : Int) := by omega
  have i5 : (11 : Int) ≤ (s.size : Int) := by omega
  have i6 : (12 : Int) ≤ (s.size : Int) := by omega
  have i7 : (14 : Int) ≤ (s.size : Int) := by omega
  have i8 : (16 : Int) ≤ (s.size : Int) := by omega
  cases p
  · clear hX
    go_enter Tryd.func113, Tryd.ntmps113
    go_wp2_with fail
    repeat (first
      | (with_reducible refine c1.calls ?_; try go_wp2_with fail)
      | (with_reducible refine c2.calls ?_; try go_wp2_with fail))
    go_region
    obtain ⟨W2, hW2⟩ : ∃ W2, W2 = ((w.alloc (.cells Z7 138)).alloc (.cells (C7 N1 N2 L U M V E) 138)).drew := ⟨_, rfl⟩
    have hw1 : (w.alloc (.cells Z7 138)).heap.size = w.heap.size + 1 := by simp
    have hs1 : Since w (w.alloc (.cells Z7 138)) := (Since.refl w).alloc _
    have hd1 : Below ((w.alloc (.cells Z7 138)).alloc (.cells (C7 N1 N2 L U M V E) 138)).heap.size ((w.alloc (.cells Z7 138)).alloc (.cells (C7 N1 N2 L U M V E) 138)) ((w.alloc (.cells Z7 138)).alloc (.cells (C7 N1 N2 L U M V E) 138)).drew := Below.drew (Below.refl _ _)
    have hb := (hb_new (w.alloc (.cells Z7 138)) (KH) (Kp.keep hT hs1) (C7 N1 N2 L U M V E) 138).step hd1
    rw [hw1, ← hW2] at hb
    have hp : Hid (HB w (KH) (w.heap.size + 1) (C7 N1 N2 L U M V E) W2) := Lib.hid ⟨hs1.step hb.since, hb.tabs, hb.cell, hb.lg⟩
    have hr : Hid (HR w w.heap.size Z7 138 W2) := Lib.hid (by rw [hW2]; exact (hr_old ⟨heap_alloc_new w _⟩ _).step hd1)
    have hW3 := hW2
    unfold Z7 C7 at hW3
    rw [← hW3]
    clear hW3 hW2 hb hd1 hs1 hw1
    obtain ⟨_, m0, m1, m2, m3, m4, m5, m6⟩ := hb7 hp
    have hg := hp.out.lg
    have HS := Lib.hid hp.out.since
    have HT := Lib.hid hp.out.tabs
    go_wp2_with (refine wpList_store_row rfl 138 _ _ rfl w.heap.size (C7 0 0 ⟨#[]⟩ ⟨#[]⟩ ⟨#[]⟩ ⟨#[]⟩ ⟨#[]⟩) (by rfl) (by rfl) _ _ hr.out.row (c7_info _ _ _ _ _ _ _) rfl (c7_one _ _ _ _ _ _ _) ?_)
    exact bodyPost_ret (v := .tuple #[.agg Z7, .int .i64 5]) (results_cell_tmp2 Tryd.results113 _ _ _ _ _ _ _ _ rfl rfl (setRow_heap _ _ _ _ _ _ hr.out.row) Tryd.underlying138 rfl (c7_info _ _ _ _ _ _ _)) rfl ⟨rfl, below_setRow HS.out (Nat.le_refl _) _⟩
  · cases b1
    · clear hX
      go_enter Tryd.func113, Tryd.ntmps113
      go_wp2_with fail
      repeat (first
        | (with_reducible refine c1.calls ?_; try go_wp2_with fail)
        | (with_reducible refine c2.calls ?_; try go_wp2_with fail))
      go_region
      obtain ⟨W2, hW2⟩ : ∃ W2, W2 = ((w.alloc (.cells Z7 138)).alloc (.cells (C7 N1 N2 L U M V E) 138)).drew := ⟨_, rfl⟩
      have hw1 : (w.alloc (.cells Z7 138)).heap.size = w.heap.size + 1 := by simp
      have hs1 : Since w (w.alloc (.cells Z7 138)) := (Since.refl w).alloc _
      have hd1 : Below ((w.alloc (.cells Z7 138)).alloc (.cells (C7 N1 N2 L U M V E) 138)).heap.size ((w.alloc (.cells Z7 138)).alloc (.cells (C7 N1 N2 L U M V E) 138)) ((w.alloc (.cells Z7 138)).alloc (.cells (C7 N1 N2 L U M V E) 138)).drew := Below.drew (Below.refl _ _)
      have hb := (hb_new (w.alloc (.cells Z7 138)) (KH) (Kp.keep hT hs1) (C7 N1 N2 L U M V E) 138).step hd1
      rw [hw1, ← hW2] at hb
      have hp : Hid (HB w (KH) (w.heap.size + 1) (C7 N1 N2 L U M V E) W2) := Lib.hid ⟨hs1.step hb.since, hb.tabs, hb.cell, hb.lg⟩
      have hr : Hid (HR w w.heap.size Z7 138 W2) := Lib.hid (by rw [hW2]; exact (hr_old ⟨heap_alloc_new w _⟩ _).step hd1)
      have hW3 := hW2
      unfold Z7 C7 at hW3
      rw [← hW3]
      clear hW3 hW2 hb hd1 hs1 hw1
      obtain ⟨_, m0, m1, m2, m3, m4, m5, m6⟩ := hb7 hp
      have hg := hp.out.lg
      have HS := Lib.hid hp.out.since
      have HT := Lib.hid hp.out.tabs
      go_wp2_with (refine wpList_store_row rfl 138 _ _ rfl w.heap.size (C7 0 0 ⟨#[]⟩ ⟨#[]⟩ ⟨#[]⟩ ⟨#[]⟩ ⟨#[]⟩) (by rfl) (by rfl) _ _ hr.out.row (c7_info _ _ _ _ _ _ _) rfl (c7_one _ _ _ _ _ _ _) ?_)
      exact bodyPost_ret (v := .tuple #[.agg Z7, .int .i64 5]) (results_cell_tmp2 Tryd.results113 _ _ _ _ _ _ _ _ rfl rfl (setRow_heap _ _ _ _ _ _ hr.out.row) Tryd.underlying138 rfl (c7_info _ _ _ _ _ _ _)) rfl ⟨rfl, below_setRow HS.out (Nat.le_refl _) _⟩
    · cases b2
      · clear hX
        go_enter Tryd.func113, Tryd.ntmps113
        go_wp2_with fail
        repeat (first
          | (with_reducible refine c1.calls ?_; try go_wp2_with fail)
          | (with_reducible refine c2.calls ?_; try go_wp2_with fail))
        go_region
        obtain ⟨W2, hW2⟩ : ∃ W2, W2 = ((w.alloc (.cells Z7 138)).alloc (.cells (C7 N1 N2 L U M V E) 138)).drew := ⟨_, rfl⟩
        have hw1 : (w.alloc (.cells Z7 138)).heap.size = w.heap.size + 1 := by simp
        have hs1 : Since w (w.alloc (.cells Z7 138)) := (Since.refl w).alloc _
        have hd1 : Below ((w.alloc (.cells Z7 138)).alloc (.cells (C7 N1 N2 L U M V E) 138)).heap.size ((w.alloc (.cells Z7 138)).alloc (.cells (C7 N1 N2 L U M V E) 138)) ((w.alloc (.cells Z7 138)).alloc (.cells (C7 N1 N2 L U M V E) 138)).drew := Below.drew (Below.refl _ _)
        have hb := (hb_new (w.alloc (.cells Z7 138)) (KH) (Kp.keep hT hs1) (C7 N1 N2 L U M V E) 138).step hd1
        rw [hw1, ← hW2] at hb
        have hp : Hid (HB w (KH) (w.heap.size + 1) (C7 N1 N2 L U M V E) W2) := Lib.hid ⟨hs1.step hb.since, hb.tabs, hb.cell, hb.lg⟩
        have hr : Hid (HR w w.heap.size Z7 138 W2) := Lib.hid (by rw [hW2]; exact (hr_old ⟨heap_alloc_new w _⟩ _).step hd1)
        have hW3 := hW2
        unfold Z7 C7 at hW3
        rw [← hW3]
        clear hW3 hW2 hb hd1 hs1 hw1
        obtain ⟨_, m0, m1, m2, m3, m4, m5, m6⟩ := hb7 hp
        have hg := hp.out.lg
        have HS := Lib.hid hp.out.since
        have HT := Lib.hid hp.out.tabs
        go_wp2_with (refine wpList_store_row rfl 138 _ _ rfl w.heap.size (C7 0 0 ⟨#[]⟩ ⟨#[]⟩ ⟨#[]⟩ ⟨#[]⟩ ⟨#[]⟩) (by rfl) (by rfl) _ _ hr.out.row (c7_info _ _ _ _ _ _ _) rfl (c7_one _ _ _ _ _ _ _) ?_)
        exact bodyPost_ret (v := .tuple #[.agg Z7, .int .i64 5]) (results_cell_tmp2 Tryd.results113 _ _ _ _ _ _ _ _ rfl rfl (setRow_heap _ _ _ _ _ _ hr.out.row) Tryd.underlying138 rfl (c7_info _ _ _ _ _ _ _)) rfl ⟨rfl, below_setRow HS.out (Nat.le_refl _) _⟩
      · cases q
        · clear hX
          go_enter Tryd.func113, Tryd.ntmps113
          go_wp2_with fail
          repeat (first
            | (with_reducible refine c1.calls ?_; try go_wp2_with fail)
            | (with_reducible refine c2.calls ?_; try go_wp2_with fail))
          go_region
          obtain ⟨W2, hW2⟩ : ∃ W2, W2 = ((w.alloc (.cells Z7 138)).alloc (.cells (C7 N1 N2 L U M V E) 138)).drew := ⟨_, rfl⟩
          have hw1 : (w.alloc (.cells Z7 138)).heap.size = w.heap.size + 1 := by simp
          have hs1 : Since w (w.alloc (.cells Z7 138)) := (Since.refl w).alloc _
          have hd1 : Below ((w.alloc (.cells Z7 138)).alloc (.cells (C7 N1 N2 L U M V E) 138)).heap.size ((w.alloc (.cells Z7 138)).alloc (.cells (C7 N1 N2 L U M V E) 138)) ((w.alloc (.cells Z7 138)).alloc (.cells (C7 N1 N2 L U M V E) 138)).drew := Below.drew (Below.refl _ _)
          have hb := (hb_new (w.alloc (.cells Z7 138)) (KH) (Kp.keep hT hs1) (C7 N1 N2 L U M V E) 138).step hd1
          rw [hw1, ← hW2] at hb
          have hp : Hid (HB w (KH) (w.heap.size + 1) (C7 N1 N2 L U M V E) W2) := Lib.hid ⟨hs1.step hb.since, hb.tabs, hb.cell, hb.lg⟩
          have hr : Hid (HR w w.heap.size Z7 138 W2) := Lib.hid (by rw [hW2]; exact (hr_old ⟨heap_alloc_new w _⟩ _).step hd1)
          have hW3 := hW2
          unfold Z7 C7 at hW3
          rw [← hW3]
          clear hW3 hW2 hb hd1 hs1 hw1
          obtain ⟨_, m0, m1, m2, m3, m4, m5, m6⟩ := hb7 hp
          have hg := hp.out.lg
          have HS := Lib.hid hp.out.since
          have HT := Lib.hid hp.out.tabs
          go_wp2_with (refine wpList_store_row rfl 138 _ _ rfl w.heap.size (C7 0 0 ⟨#[]⟩ ⟨#[]⟩ ⟨#[]⟩ ⟨#[]⟩ ⟨#[]⟩) (by rfl) (by rfl) _ _ hr.out.row (c7_info _ _ _ _ _ _ _) rfl (c7_one _ _ _ _ _ _ _) ?_)
          exact bodyPost_ret (v := .tuple #[.agg Z7, .int .i64 5]) (results_cell_tmp2 Tryd.results113 _ _ _ _ _ _ _ _ rfl rfl (setRow_heap _ _ _ _ _ _ hr.out.row) Tryd.underlying138 rfl (c7_info _ _ _ _ _ _ _)) rfl ⟨rfl, below_setRow HS.out (Nat.le_refl _) _⟩
        · have hX2 := hX rfl
          clear hX
          go_enter Tryd.func113, Tryd.ntmps113
          go_wp2_with fail
          repeat (first
            | (with_reducible refine c1.calls ?_; try go_wp2_with fail)
            | (with_reducible refine c2.calls ?_; try go_wp2_with fail))
          go_region
          obtain ⟨W2, hW2⟩ : ∃ W2, W2 = ((w.alloc (.cells Z7 138)).alloc (.cells (C7 N1 N2 L U M V E) 138)).drew := ⟨_, rfl⟩
          have hw1 : (w.alloc (.cells Z7 138)).heap.size = w.heap.size + 1 := by simp
          have hs1 : Since w (w.alloc (.cells Z7 138)) := (Since.refl w).alloc _
          have hd1 : Below ((w.alloc (.cells Z7 138)).alloc (.cells (C7 N1 N2 L U M V E) 138)).heap.size ((w.alloc (.cells Z7 138)).alloc (.cells (C7 N1 N2 L U M V E) 138)) ((w.alloc (.cells Z7 138)).alloc (.cells (C7 N1 N2 L U M V E) 138)).drew := Below.drew (Below.refl _ _)
          have hb := (hb_new (w.alloc (.cells Z7 138)) (KH) (Kp.keep hT hs1) (C7 N1 N2 L U M V E) 138).step hd1
          rw [hw1, ← hW2] at hb
          have hp : Hid (HB w (KH) (w.heap.size + 1) (C7 N1 N2 L U M V E) W2) := Lib.hid ⟨hs1.step hb.since, hb.tabs, hb.cell, hb.lg⟩
          have hr : Hid (HR w w.heap.size Z7 138 W2) := Lib.hid (by rw [hW2]; exact (hr_old ⟨heap_alloc_new w _⟩ _).step hd1)
          have hW3 := hW2
          unfold Z7 C7 at hW3
          rw [← hW3]
          clear hW3 hW2 hb hd1 hs1 hw1
          obtain ⟨_, m0, m1, m2, m3, m4, m5, m6⟩ := hb7 hp
          have hg := hp.out.lg
          have HS := Lib.hid hp.out.since
          have HT := Lib.hid hp.out.tabs
          go_wp2_with fail
          refine c3.calls0 HT.out ?_
          intro wz hz
          replace hp := Lib.hid (hp.out.step hz)
          replace hr := Lib.hid (hr.out.step hz)
          replace m0 := (Below.cell hz (by exact hg)).trans m0
          replace m1 := (Below.cell hz (by exact hg)).trans m1
          replace m2 := (Below.cell hz (by exact hg)).trans m2
          replace m3 := (Below.cell hz (by exact hg)).trans m3
          replace m4 := (Below.cell hz (by exact hg)).trans m4
          replace m5 := (Below.cell hz (by exact hg)).trans m5
          replace m6 := (Below.cell hz (by exact hg)).trans m6
          replace hg := Nat.lt_of_lt_of_le hg (Below.size hz)
          replace HT := Lib.hid (Kp.keep HT.out hz)
          replace HS := Lib.hid (HS.out.step hz)
          clear hz
          go_wp2_with (refine wpList_store_row rfl 138 _ _ rfl w.heap.size (C7 0 0 ⟨#[]⟩ ⟨#[]⟩ ⟨#[]⟩ ⟨#[]⟩ ⟨#[]⟩) (by rfl) (by rfl) _ _ hr.out.row (c7_info _ _ _ _ _ _ _) rfl (c7_one _ _ _ _ _ _ _) ?_)
          exact bodyPost_ret (v := .tuple #[.agg Z7, .int .i64 5]) (results_cell_tmp2 Tryd.results113 _ _ _ _ _ _ _ _ rfl rfl (setRow_heap _ _ _ _ _ _ hr.out.row) Tryd.underlying138 rfl (c7_info _ _ _ _ _ _ _)) rfl ⟨rfl, below_setRow HS.out (Nat.le_refl _) _⟩
set_option maxRecDepth 100000 in
set_option maxHeartbeats 8000000 in
theorem dec_chk (s P1 P2 L U M V E A Z : ByteArray) (h : Cut7 s P1 P2 L U M V E A Z) (N1 N2 X : Int) (hp : (A.toList == [68]) = true) (hq : (Z.toList == [48, 48]) = true) (hX : (X == 0) = false)
    (c1 : Ret 131 #[.string P1] (.tuple #[.int .i64 N1, .bool true])) (c2 : Ret 131 #[.string P2] (.tuple #[.int .i64 N2, .bool true])) (c3 : KMk KH 132 #[.string L] (.int .i64 X))
    (c4 : KMk KH 133 #[.agg #[.string U, .string M, .string V, .string E], .string L] (.int .i64 12)) : KMk KH 113 #[.string s] (.tuple #[.agg Z7, .int .i64 12]) := by
  intro w hT
  obtain ⟨h16, hm, e1, e2, e3, e4, e5, e6, e7, e8, e9⟩ := h
  have t1 : decide ((s.size : Int) < 16) = false := decide_eq_false (by omega)
  have i0 : (1 : Int) ≤ (s.size : Int) := by omega
  have i1 : (5 : Int) ≤ (s.size : Int) := by omega
  have i2 : (7 : Int) ≤ (s.size : Int) := by omega
  have i3 : (8 : Int) ≤ (s.size : Int) := by omega
  have i4 : (9 : Int) ≤ (s.size : Int) := by omega
  have i5 : (11 : Int) ≤ (s.size : Int) := by omega
  have i6 : (12 : Int) ≤ (s.size : Int) := by omega
  have i7 : (14 : Int) ≤ (s.size : Int) := by omega
  have i8 : (16 : Int) ≤ (s.size : Int) := by omega
  go_enter Tryd.func113, Tryd.ntmps113
  go_wp2_with fail
  repeat (first
    | (with_reducible refine c1.calls ?_; try go_wp2_with fail)
    | (with_reducible refine c2.calls ?_; try go_wp2_with fail))
  go_region
  obtain ⟨W2, hW2⟩ : ∃ W2, W2 = ((w.alloc (.cells Z7 138)).alloc (.cells (C7 N1 N2 L U M V E) 138)).drew := ⟨_, rfl⟩
  have hw1 : (w.alloc (.cells Z7 138)).heap.size = w.heap.size + 1 := by simp
  have hs1 : Since w (w.alloc (.cells Z7 138)) := (Since.refl w).alloc _
  have hd1 : Below ((w.alloc (.cells Z7 138)).alloc (.cells (C7 N1 N2 L U M V E) 138)).heap.size ((w.alloc (.cells Z7 138)).alloc (.cells (C7 N1 N2 L U M V E) 138)) ((w.alloc (.cells Z7 138)).alloc (.cells (C7 N1 N2 L U M V E) 138)).drew := Below.drew (Below.refl _ _)
  have hb := (hb_new (w.alloc (.cells Z7 138)) (KH) (Kp.keep hT hs1) (C7 N1 N2 L U M V E) 138).step hd1
  rw [hw1, ← hW2] at hb
  have hp : Hid (HB w (KH) (w.heap.size + 1) (C7 N1 N2 L U M V E) W2) := Lib.hid ⟨hs1.step hb.since, hb.tabs, hb.cell, hb.lg⟩
  have hr : Hid (HR w w.heap.size Z7 138 W2) := Lib.hid (by rw [hW2]; exact (hr_old ⟨heap_alloc_new w _⟩ _).step hd1)
  have hW3 := hW2
  unfold Z7 C7 at hW3
  rw [← hW3]
  clear hW3 hW2 hb hd1 hs1 hw1
  obtain ⟨_, m0, m1, m2, m3, m4, m5, m6⟩ := hb7 hp
  have hg := hp.out.lg
  have HS := Lib.hid hp.out.since
  have HT := Lib.hid hp.out.tabs
  go_wp2_with fail
  refine c3.calls0 HT.out ?_
  intro wz hz
  replace hp := Lib.hid (hp.out.step hz)
  replace hr := Lib.hid (hr.out.step hz)
  replace m0 := (Below.cell hz (by exact hg)).trans m0
  replace m1 := (Below.cell hz (by exact hg)).trans m1
  replace m2 := (Below.cell hz (by exact hg)).trans m2
  replace m3 := (Below.cell hz (by exact hg)).trans m3
  replace m4 := (Below.cell hz (by exact hg)).trans m4
  replace m5 := (Below.cell hz (by exact hg)).trans m5
  replace m6 := (Below.cell hz (by exact hg)).trans m6
  replace hg := Nat.lt_of_lt_of_le hg (Below.size hz)
  replace HT := Lib.hid (Kp.keep HT.out hz)
  replace HS := Lib.hid (HS.out.step hz)
  clear hz
  go_wp2_with fail
  refine c4.calls0 HT.out ?_
  intro wz hz
  replace hp := Lib.hid (hp.out.step hz)
  replace hr := Lib.hid (hr.out.step hz)
  replace m0 := (Below.cell hz (by exact hg)).trans m0
  replace m1 := (Below.cell hz (by exact hg)).trans m1
  replace m2 := (Below.cell hz (by exact hg)).trans m2
  replace m3 := (Below.cell hz (by exact hg)).trans m3
  replace m4 := (Below.cell hz (by exact hg)).trans m4
  replace m5 := (Below.cell hz (by exact hg)).trans m5
  replace m6 := (Below.cell hz (by exact hg)).trans m6
  replace hg := Nat.lt_of_lt_of_le hg (Below.size hz)
  replace HT := Lib.hid (Kp.keep HT.out hz)
  replace HS := Lib.hid (HS.out.step hz)
  clear hz
  go_wp2_with (refine wpList_store_row rfl 138 _ _ rfl w.heap.size (C7 0 0 ⟨#[]⟩ ⟨#[]⟩ ⟨#[]⟩ ⟨#[]⟩ ⟨#[]⟩) (by rfl) (by rfl) _ _ hr.out.row (c7_info _ _ _ _ _ _ _) rfl (c7_one _ _ _ _ _ _ _) ?_)
  exact bodyPost_ret (v := .tuple #[.agg Z7, .int .i64 12]) (results_cell_tmp2 Tryd.results113 _ _ _ _ _ _ _ _ rfl rfl (setRow_heap _ _ _ _ _ _ hr.out.row) Tryd.underlying138 rfl (c7_info _ _ _ _ _ _ _)) rfl ⟨rfl, below_setRow HS.out (Nat.le_refl _) _⟩
set_option maxRecDepth 100000 in
set_option maxHeartbeats 8000000 in
theorem dec_ok (s P1 P2 L U M V E A Z : ByteArray) (h : Cut7 s P1 P2 L U M V E A Z) (N1 N2 X : Int) (hp : (A.toList == [68]) = true) (hq : (Z.toList == [48, 48]) = true) (hX : (X == 0) = false)
    (c1 : Ret 131 #[.string P1] (.tuple #[.int .i64 N1, .bool true])) (c2 : Ret 131 #[.string P2] (.tuple #[.int .i64 N2, .bool true])) (c3 : KMk KH 132 #[.string L] (.int .i64 X))
    (c4 : KMk KH 133 #[.agg #[.string U, .string M, .string V, .string E], .string L] (.int .i64 0)) : KMk KH 113 #[.string s] (.tuple #[.agg (C7 N1 N2 L U M V E), .int .i64 0]) := by
  intro w hT
  obtain ⟨h16, hm, e1, e2, e3, e4, e5, e6, e7, e8, e9⟩ := h
  have t1 : decide ((s.size : Int) < 16) = false := decide_eq_false (by omega)
  have i0 : (1 : Int) ≤ (s.size : Int) := by omega
  have i1 : (5 : Int) ≤ (s.size : Int) := by omega
  have i2 : (7 : Int) ≤ (s.size : Int) := by omega
  have i3 : (8 : Int) ≤ (s.size : Int) := by omega
  have i4 : (9 : Int) ≤ (s.size : Int) := by omega
  have i5 : (11 : Int) ≤ (s.size : Int) := by omega
  have i6 : (12 : Int) ≤ (s.size : Int) := by omega
  have i7 : (14 : Int) ≤ (s.size : Int) := by omega
  have i8 : (16 : Int) ≤ (s.size : Int) := by omega
  go_enter Tryd.func113, Tryd.ntmps113
  go_wp2_with fail
  repeat (first
    | (with_reducible refine c1.calls ?_; try go_wp2_with fail)
    | (with_reducible refine c2.calls ?_; try go_wp2_with fail))
  go_region
  obtain ⟨W2, hW2⟩ : ∃ W2, W2 = ((w.alloc (.cells Z7 138)).alloc (.cells (C7 N1 N2 L U M V E) 138)).drew := ⟨_, rfl⟩
  have hw1 : (w.alloc (.cells Z7 138)).heap.size = w.heap.size + 1 := by simp
  have hs1 : Since w (w.alloc (.cells Z7 138)) := (Since.refl w).alloc _
  have hd1 : Below ((w.alloc (.cells Z7 138)).alloc (.cells (C7 N1 N2 L U M V E) 138)).heap.size ((w.alloc (.cells Z7 138)).alloc (.cells (C7 N1 N2 L U M V E) 138)) ((w.alloc (.cells Z7 138)).alloc (.cells (C7 N1 N2 L U M V E) 138)).drew := Below.drew (Below.refl _ _)
  have hb := (hb_new (w.alloc (.cells Z7 138)) (KH) (Kp.keep hT hs1) (C7 N1 N2 L U M V E) 138).step hd1
  rw [hw1, ← hW2] at hb
  have hp : Hid (HB w (KH) (w.heap.size + 1) (C7 N1 N2 L U M V E) W2) := Lib.hid ⟨hs1.step hb.since, hb.tabs, hb.cell, hb.lg⟩
  have hr : Hid (HR w w.heap.size Z7 138 W2) := Lib.hid (by rw [hW2]; exact (hr_old ⟨heap_alloc_new w _⟩ _).step hd1)
  have hW3 := hW2
  unfold Z7 C7 at hW3
  rw [← hW3]
  clear hW3 hW2 hb hd1 hs1 hw1
  obtain ⟨_, m0, m1, m2, m3, m4, m5, m6⟩ := hb7 hp
  have hg := hp.out.lg
  have HS := Lib.hid hp.out.since
  have HT := Lib.hid hp.out.tabs
  go_wp2_with fail
  refine c3.calls0 HT.out ?_
  intro wz hz
  replace hp := Lib.hid (hp.out.step hz)
  replace hr := Lib.hid (hr.out.step hz)
  replace m0 := (Below.cell hz (by exact hg)).trans m0
  replace m1 := (Below.cell hz (by exact hg)).trans m1
  replace m2 := (Below.cell hz (by exact hg)).trans m2
  replace m3 := (Below.cell hz (by exact hg)).trans m3
  replace m4 := (Below.cell hz (by exact hg)).trans m4
  replace m5 := (Below.cell hz (by exact hg)).trans m5
  replace m6 := (Below.cell hz (by exact hg)).trans m6
  replace hg := Nat.lt_of_lt_of_le hg (Below.size hz)
  replace HT := Lib.hid (Kp.keep HT.out hz)
  replace HS := Lib.hid (HS.out.step hz)
  clear hz
  go_wp2_with fail
  refine c4.calls0 HT.out ?_
  intro wz hz
  replace hp := Lib.hid (hp.out.step hz)
  replace hr := Lib.hid (hr.out.step hz)
  replace m0 := (Below.cell hz (by exact hg)).trans m0
  replace m1 := (Below.cell hz (by exact hg)).trans m1
  replace m2 := (Below.cell hz (by exact hg)).trans m2
  replace m3 := (Below.cell hz (by exact hg)).trans m3
  replace m4 := (Below.cell hz (by exact hg)).trans m4
  replace m5 := (Below.cell hz (by exact hg)).trans m5
  replace m6 := (Below.cell hz (by exact hg)).trans m6
  replace hg := Nat.lt_of_lt_of_le hg (Below.size hz)
  replace HT := Lib.hid (Kp.keep HT.out hz)
  replace HS := Lib.hid (HS.out.step hz)
  clear hz
  go_wp2_with (refine wpList_store_row rfl 138 _ _ rfl w.heap.size (C7 N1 N2 L U M V E) (by rfl) (by rfl) _ _ hr.out.row (c7_info _ _ _ _ _ _ _) rfl (c7_one _ _ _ _ _ _ _) ?_)
  exact bodyPost_ret (v := .tuple #[.agg (C7 N1 N2 L U M V E), .int .i64 0]) (results_cell_tmp2 Tryd.results113 _ _ _ _ _ _ _ _ rfl rfl (setRow_heap _ _ _ _ _ _ hr.out.row) Tryd.underlying138 rfl (c7_info _ _ _ _ _ _ _)) rfl ⟨rfl, below_setRow HS.out (Nat.le_refl _) _⟩
end Header
end Go.Proofs.YtgfdomdbjiflmaaDoor

/- The reference of header: Decode. -/
namespace Go.Proofs.YtgfdomdbjiflmaaDoor
open Go.RowKit
namespace Header
end Header
end Go.Proofs.YtgfdomdbjiflmaaDoor

/- header: what is read, by both sides; what is written is read, what is read is written so again. -/
namespace Go.Proofs.YtgfdomdbjiflmaaDoor
open Go.RowKit
namespace Header
theorem numD_inj : ∀ (n : Nat) (l m : List UInt8), l.length = n → m.length = n → l.all Dig.isD = true → m.all Dig.isD = true → Dig.numD l = Dig.numD m → l = m := by
  intro n
  induction n with
  | zero =>
    intro l m hl hm _ _ _
    rw [List.eq_nil_of_length_eq_zero hl, List.eq_nil_of_length_eq_zero hm]
  | succ n ih =>
    intro l m hl hm al am h
    have hl0 : l ≠ [] := fun h => by rw [h] at hl; cases hl
    have hm0 : m ≠ [] := fun h => by rw [h] at hm; cases hm
    obtain ⟨a, x, ha⟩ : ∃ a x, l = a ++ [x] := ⟨_, _, (List.dropLast_concat_getLast hl0).symm⟩
    obtain ⟨b, y, hb⟩ : ∃ b y, m = b ++ [y] := ⟨_, _, (List.dropLast_concat_getLast hm0).symm⟩
    subst ha hb
    rw [Dig.numD_snoc, Dig.numD_snoc] at h
    rw [List.all_append, Bool.and_eq_true] at al am
    have d1 : Dig.isD x = true := by simpa using al.2
    have d2 : Dig.isD y = true := by simpa using am.2
    unfold Dig.isD at d1 d2
    simp only [Bool.and_eq_true, decide_eq_true_eq] at d1 d2
    have e1 : x.toNat = y.toNat := by omega
    have e2 : Dig.numD a = Dig.numD b := by omega
    rw [List.length_append, List.length_singleton] at hl hm
    rw [ih a b (by omega) (by omega) al.1 am.1 e2, UInt8.toNat_inj.1 e1]
theorem decS_list (W n : Nat) : (decS W n).data.toList = (List.range W).map fun i => UInt8.ofNat (Dig.dg n (W - 1 - i)).toNat := by
  unfold decS
  rw [nums_list, List.map_map]; rfl
theorem decS_back (W : Nat) (s : ByteArray) (hs : s.size = W) (h : s.data.toList.all Dig.isD = true) : decS W (Dig.numD s.data.toList) = s := by
  apply ba_ext
  rw [decS_list]
  have hl : s.data.toList.length = W := hs
  have hlt := Dig.numD_lt s.data.toList W h (by omega)
  exact numD_inj W _ _ (by simp) hl (Dig.isD_dec W _) h (by rw [Dig.numD_dec, Nat.mod_eq_of_lt hlt])
theorem undec_ret (t : ByteArray) (h1 : 1 ≤ t.size) (hs : t.size ≤ 18) : Ret 131 #[.string t] (.tuple #[.int .i64 (if t.data.toList.all Dig.isD = true then (Dig.numD t.data.toList : Int) else 0), .bool (t.data.toList.all Dig.isD)]) := fun w => Dig.undec_in t w h1 hs _ _ rfl rfl
/-- is a text a header, but for what may be? -/
def Form (s : ByteArray) : Prop := 16 ≤ s.size ∧ (s.extract 0 1).toList = [68] ∧ (s.extract 1 5).data.toList.all Dig.isD = true ∧ (s.extract 12 14).data.toList.all Dig.isD = true ∧ (s.extract 14 16).toList = [48, 48] ∧ Kind.mostN (s.extract 7 8).data.toList ≠ 0
instance (s : ByteArray) : Decidable (Form s) := by unfold Form; infer_instance
def okS (s : ByteArray) : Bool := Table.okB (s.extract 5 7).data.toList (s.extract 8 9).data.toList (s.extract 9 11).data.toList (s.extract 11 12).data.toList (s.extract 7 8).data.toList
def decE (s : ByteArray) : Int := if Form s then (if okS s then 0 else 12) else 5
def decV (s : ByteArray) : Array Value := if Form s ∧ okS s = true then C7 (Dig.numD (s.extract 1 5).data.toList : Int) (Dig.numD (s.extract 12 14).data.toList : Int) (s.extract 7 8) (s.extract 5 7) (s.extract 8 9) (s.extract 9 11) (s.extract 11 12) else Z7
theorem cut7 (s : ByteArray) (h : 16 ≤ s.size) (hm : s.size ≤ 1000000) : Cut7 s (s.extract 1 5) (s.extract 12 14) (s.extract 7 8) (s.extract 5 7) (s.extract 8 9) (s.extract 9 11) (s.extract 11 12) (s.extract 0 1) (s.extract 14 16) := ⟨h, hm, rfl, rfl, rfl, rfl, rfl, rfl, rfl, rfl, rfl⟩
theorem ext0 (s : ByteArray) (h : 0 < s.size) : (s.extract 0 1).toList = [s[0]] := by
  rw [toList_d, ext_list, Nat.sub_zero, List.drop_zero]
  have h2 : 0 < s.data.toList.length := h
  obtain ⟨c, l, hc⟩ : ∃ c l, s.data.toList = c :: l := by
    cases hx : s.data.toList with
    | nil => rw [hx] at h2; simp at h2
    | cons c l => exact ⟨c, l, rfl⟩
  have h3 : s[0] = c := by
    have : s.data.toList[0]'h2 = s[0] := rfl
    rw [← this]
    simp [hc]
  rw [hc, h3]; rfl
theorem dec_any (s : ByteArray) (hm : s.size ≤ 1000000) : KMk KH 113 #[.string s] (.tuple #[.agg (decV s), .int .i64 (decE s)]) := by
  unfold decV decE
  by_cases h16 : 16 ≤ s.size
  · have hc := cut7 s h16 hm
    have c1 := undec_ret (s.extract 1 5) (by rw [ByteArray.size_extract]; omega) (by rw [ByteArray.size_extract]; omega)
    have c2 := undec_ret (s.extract 12 14) (by rw [ByteArray.size_extract]; omega) (by rw [ByteArray.size_extract]; omega)
    have c3 := most_h (s.extract 7 8) _ rfl
    by_cases hf : Form s
    · rw [if_pos hf]
      have hf2 := hf
      obtain ⟨_, f1, f2, f3, f4, f5⟩ := hf2
      rw [f2, if_pos rfl] at c1
      rw [f3, if_pos rfl] at c2
      have hX : (Kind.mostN (s.extract 7 8).data.toList == 0) = false := by rw [beq_eq_false_iff_ne]; exact f5
      by_cases hk : okS s = true
      · rw [if_pos ⟨hf, hk⟩, if_pos hk]
        exact dec_ok s _ _ _ _ _ _ _ _ _ hc _ _ _ (by rw [beq_iff_eq]; exact f1) (by rw [beq_iff_eq]; exact f4) hX c1 c2 c3 (check_h _ _ _ _ _ 0 (by unfold okS at hk; rw [if_pos hk]))
      · rw [if_neg (fun h => hk h.2), if_neg hk]
        exact dec_chk s _ _ _ _ _ _ _ _ _ hc _ _ _ (by rw [beq_iff_eq]; exact f1) (by rw [beq_iff_eq]; exact f4) hX c1 c2 c3 (check_h _ _ _ _ _ 12 (by unfold okS at hk; rw [if_neg hk]))
    · rw [if_neg hf, if_neg (fun h => hf h.1)]
      refine dec_form s _ _ _ _ _ _ _ _ _ hc _ _ _ _ _ _ _ rfl rfl (fun h => ?_) c1 c2 c3
      simp only [Bool.and_eq_true, beq_iff_eq] at h ⊢
      apply Classical.byContradiction
      intro h0
      exact hf ⟨h16, h.1.1.1, h.1.1.2, h.1.2, h.2, h0⟩
  · have hf : ¬ Form s := fun h => h16 h.1
    rw [if_neg hf, if_neg (fun h => hf h.1)]
    exact (dec_short s (by omega)).k
end Header
end Go.Proofs.YtgfdomdbjiflmaaDoor

/- header: what is written is read as it was; what is read is written so again (plain mathematics). -/
namespace Go.Proofs.YtgfdomdbjiflmaaDoor
open Go.RowKit
namespace Header
theorem one_len1 (t s : List UInt8) (h : Table.one t s = true) : s.length = 1 ∧ t ≠ [] := by
  unfold Table.one at h
  split at h
  · refine ⟨rfl, fun h2 => ?_⟩
    rw [h2] at h
    cases h
  · cases h
theorem ver_len (v : List UInt8) (h : Table.verB v = true) : v.length = 2 := by
  unfold Table.verB at h
  split at h
  · rfl
  · cases h
theorem line_len2 (u : List UInt8) (h : (Table.lineL u).2.1 ≠ []) : u.length = 2 := by
  unfold Table.lineL at h
  split at h
  · rename_i hn
    unfold Table.num at hn
    split at hn
    · rfl
    · cases hn
  · split at h
    · exact absurd rfl h
    · rename_i h0
      cases hf : Table.rows.find? (fun r => r.1 == u) with
      | none => rw [hf] at h; exact absurd rfl h
      | some r =>
        have h1 := List.find?_some hf
        have h2 := List.mem_of_find?_eq_some hf
        rw [beq_iff_eq] at h1
        have hall : ∀ r ∈ Table.rows, r.1.length = 2 ∨ r.1 = [] := by decide
        rcases hall r h2 with h3 | h3
        · rw [← h1]; exact h3
        · rw [h1] at h3; exact absurd h3 h0
theorem okB_lens (u m v e l : List UInt8) (h : Table.okB u m v e l = true) : u.length = 2 ∧ m.length = 1 ∧ v.length = 2 ∧ e.length = 1 ∧ l.length = 1 := by
  unfold Table.okB at h
  simp only [Bool.and_eq_true] at h
  obtain ⟨⟨⟨h1, h2⟩, h3⟩, h4⟩ := h
  have a := one_len1 _ _ h1
  exact ⟨line_len2 u a.2, (one_len1 _ _ h2).1, ver_len v h3, (one_len1 _ _ h4).1, a.1⟩
theorem list4 (l : List UInt8) (h : l.length = 4) : ∃ a b c d, l = [a, b, c, d] := by
  match l, h with
  | [a, b, c, d], _ => exact ⟨a, b, c, d, rfl⟩
theorem list2 (l : List UInt8) (h : l.length = 2) : ∃ a b, l = [a, b] := by
  match l, h with
  | [a, b], _ => exact ⟨a, b, rfl⟩
theorem list1 (l : List UInt8) (h : l.length = 1) : ∃ a, l = [a] := by
  match l, h with
  | [a], _ => exact ⟨a, rfl⟩
theorem cat_list (D1 u l m v e D2 : ByteArray) : (catS D1 u l m v e D2).data.toList = 68 :: (D1.data.toList ++ (u.data.toList ++ (l.data.toList ++ (m.data.toList ++ (v.data.toList ++ (e.data.toList ++ (D2.data.toList ++ [48, 48]))))))) := by
  unfold catS
  simp only [app_list, List.append_assoc]
  rfl
theorem dec_enc (n k : Int) (l u m v e rest : ByteArray) (hi : InN n k l.data.toList) (hk : Table.okB u.data.toList m.data.toList v.data.toList e.data.toList l.data.toList = true) :
    (encX n k l u m v e).size = 16 ∧ decE (encX n k l u m v e ++ rest) = 0 ∧ decV (encX n k l u m v e ++ rest) = C7 n k l u m v e := by
  obtain ⟨s1, s2, s3, s4, s5⟩ := okB_lens _ _ _ _ _ hk
  have hi2 := hi
  obtain ⟨i1, i2, i3, i4, i5⟩ := hi2
  obtain ⟨n, rfl⟩ := Int.eq_ofNat_of_zero_le i1
  obtain ⟨k, rfl⟩ := Int.eq_ofNat_of_zero_le i3
  unfold encX
  rw [if_pos ⟨hi, hk⟩, Int.toNat_natCast, Int.toNat_natCast]
  have z4 : (decS 4 n).data.toList.length = 4 := decS_size 4 n
  have z2 : (decS 2 k).data.toList.length = 2 := decS_size 2 k
  have d4 : (decS 4 n).data.toList.all Dig.isD = true := by rw [decS_list]; exact Dig.isD_dec 4 n
  have d2 : (decS 2 k).data.toList.all Dig.isD = true := by rw [decS_list]; exact Dig.isD_dec 2 k
  have n4 : Dig.numD (decS 4 n).data.toList = n := by rw [decS_list, Dig.numD_dec, Nat.mod_eq_of_lt (by omega)]
  have n2 : Dig.numD (decS 2 k).data.toList = k := by rw [decS_list, Dig.numD_dec, Nat.mod_eq_of_lt (by omega)]
  obtain ⟨X, hX⟩ : ∃ X, X = catS (decS 4 n) u l m v e (decS 2 k) := ⟨_, rfl⟩
  have hl := cat_list (decS 4 n) u l m v e (decS 2 k)
  rw [← hX] at hl ⊢
  have hl2 : (X ++ rest).data.toList = X.data.toList ++ rest.data.toList := app_list _ _
  obtain ⟨a0, a1, a2, a3, ha⟩ := list4 _ z4
  obtain ⟨b0, b1, hb⟩ := list2 _ s1
  obtain ⟨c0, hc⟩ := list1 _ s5
  obtain ⟨f0, hf⟩ := list1 _ s2
  obtain ⟨g0, g1, hg⟩ := list2 _ s3
  obtain ⟨h0, hh⟩ := list1 _ s4
  obtain ⟨j0, j1, hj⟩ := list2 _ z2
  rw [ha, hb, hc, hf, hg, hh, hj] at hl
  simp only [List.cons_append, List.nil_append] at hl
  rw [hl] at hl2
  simp only [List.cons_append, List.nil_append] at hl2
  have hsz : X.size = 16 := by
    have : X.data.toList.length = X.size := rfl
    rw [hl] at this
    exact this.symm
  have e0 : ((X ++ rest).extract 0 1).data.toList = [68] := by rw [ext_list, hl2]; rfl
  have e1 : (X ++ rest).extract 1 5 = decS 4 n := by apply ba_ext; rw [ext_list, hl2, ha]; rfl
  have e2 : (X ++ rest).extract 5 7 = u := by apply ba_ext; rw [ext_list, hl2, hb]; rfl
  have e3 : (X ++ rest).extract 7 8 = l := by apply ba_ext; rw [ext_list, hl2, hc]; rfl
  have e4 : (X ++ rest).extract 8 9 = m := by apply ba_ext; rw [ext_list, hl2, hf]; rfl
  have e5 : (X ++ rest).extract 9 11 = v := by apply ba_ext; rw [ext_list, hl2, hg]; rfl
  have e6 : (X ++ rest).extract 11 12 = e := by apply ba_ext; rw [ext_list, hl2, hh]; rfl
  have e7 : (X ++ rest).extract 12 14 = decS 2 k := by apply ba_ext; rw [ext_list, hl2, hj]; rfl
  have e8 : ((X ++ rest).extract 14 16).data.toList = [48, 48] := by rw [ext_list, hl2]; rfl
  have hF : Form (X ++ rest) := by
    refine ⟨by rw [ByteArray.size_append]; omega, by rw [toList_d]; exact e0, by rw [e1]; exact d4, by rw [e7]; exact d2, by rw [toList_d]; exact e8, by rw [e3]; exact i5⟩
  have hO : okS (X ++ rest) = true := by
    unfold okS
    rw [e2, e3, e4, e5, e6]
    exact hk
  refine ⟨hsz, ?_, ?_⟩
  · unfold decE
    rw [if_pos hF, if_pos hO]
  · unfold decV
    rw [if_pos ⟨hF, hO⟩, e1, e2, e3, e4, e5, e6, e7, n4, n2]
theorem list16 (l : List UInt8) (h : 16 ≤ l.length) : ∃ a0 a1 a2 a3 a4 a5 a6 a7 a8 a9 a10 a11 a12 a13 a14 a15 t, l = a0 :: a1 :: a2 :: a3 :: a4 :: a5 :: a6 :: a7 :: a8 :: a9 :: a10 :: a11 :: a12 :: a13 :: a14 :: a15 :: t := by
  match l, h with
  | a0 :: a1 :: a2 :: a3 :: a4 :: a5 :: a6 :: a7 :: a8 :: a9 :: a10 :: a11 :: a12 :: a13 :: a14 :: a15 :: t, _ => exact ⟨a0, a1, a2, a3, a4, a5, a6, a7, a8, a9, a10, a11, a12, a13, a14, a15, t, rfl⟩
theorem dec_cases (s : ByteArray) : (decE s ≠ 0 ∧ decV s = Z7) ∨ (decE s = 0 ∧ Form s ∧ okS s = true) := by
  unfold decE decV
  by_cases hf : Form s
  · by_cases hk : okS s = true
    · right
      rw [if_pos hf, if_pos hk]
      exact ⟨rfl, hf, hk⟩
    · left
      rw [if_pos hf, if_neg hk, if_neg (fun h => hk h.2)]
      exact ⟨by decide, rfl⟩
  · left
    rw [if_neg hf, if_neg (fun h => hf h.1)]
    exact ⟨by decide, rfl⟩
theorem enc_dec (s : ByteArray) (hF : Form s) (hk : okS s = true) : ∃ (n k : Nat) (l u m v e : ByteArray), decV s = C7 n k l u m v e ∧ u.size ≤ 100 ∧ m.size ≤ 100 ∧ v.size ≤ 100 ∧ e.size ≤ 100 ∧ encX n k l u m v e = s.extract 0 16 ∧ encE n k l u m v e = 0 := by
  have hV : decV s = C7 (Dig.numD (s.extract 1 5).data.toList : Int) (Dig.numD (s.extract 12 14).data.toList : Int) (s.extract 7 8) (s.extract 5 7) (s.extract 8 9) (s.extract 9 11) (s.extract 11 12) := by
    unfold decV
    rw [if_pos ⟨hF, hk⟩]
  obtain ⟨f0, f1, f2, f3, f4, f5⟩ := hF
  have z1 : (s.extract 1 5).size = 4 := by rw [ByteArray.size_extract]; omega
  have z2 : (s.extract 12 14).size = 2 := by rw [ByteArray.size_extract]; omega
  have hn := Dig.numD_lt (s.extract 1 5).data.toList 4 f2 (Nat.le_of_eq z1)
  have hm := Dig.numD_lt (s.extract 12 14).data.toList 2 f3 (Nat.le_of_eq z2)
  have hi : InN (Dig.numD (s.extract 1 5).data.toList : Int) (Dig.numD (s.extract 12 14).data.toList : Int) (s.extract 7 8).data.toList := ⟨by omega, by omega, by omega, by omega, f5⟩
  refine ⟨_, _, _, _, _, _, _, hV, by rw [ByteArray.size_extract]; omega, by rw [ByteArray.size_extract]; omega, by rw [ByteArray.size_extract]; omega, by rw [ByteArray.size_extract]; omega, ?_, ?_⟩
  · unfold encX
    unfold okS at hk
    rw [if_pos ⟨hi, hk⟩, Int.toNat_natCast, Int.toNat_natCast, decS_back 4 _ z1 f2, decS_back 2 _ z2 f3]
    apply ba_ext
    rw [cat_list]
    rw [toList_d] at f1 f4
    simp only [ext_list] at f1 f4 ⊢
    obtain ⟨a0, a1, a2, a3, a4, a5, a6, a7, a8, a9, a10, a11, a12, a13, a14, a15, t, hs⟩ := list16 s.data.toList f0
    rw [hs] at f1 f4 ⊢
    have g1 : a0 = 68 := by simpa using f1
    have g2 : a14 = 48 ∧ a15 = 48 := by simpa using f4
    rw [g1, g2.1, g2.2]
    rfl
  · unfold encE
    unfold okS at hk
    rw [if_pos hi, if_pos hk]
end Header
end Go.Proofs.YtgfdomdbjiflmaaDoor
