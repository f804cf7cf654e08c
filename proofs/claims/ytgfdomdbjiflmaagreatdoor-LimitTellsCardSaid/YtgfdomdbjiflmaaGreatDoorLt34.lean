/- Joined texts. -/
-- PACK: YtgfdomdbjiflmaaGreatDoorRefFrame2 YtgfdomdbjiflmaaGreatDoorRefLimit
import Derived.Test.YtgfdomdbjiflmaaGreatDoorLt33

/- The reference of layer 34: Cut. -/
namespace Go.Proofs.YtgfdomdbjiflmaaGreatDoor
open Go.RowKit
namespace Frame
open Att Templ Header
set_option maxRecDepth 100000 in
theorem rz9_info : (Tryz.prog.info? 46).map (·.size) = some Z9.size := by kernel_rfl
set_option maxRecDepth 100000 in
theorem rc9_info (l u m v e : ByteArray) (x : Value) (t c g : ByteArray) : (Tryz.prog.info? 46).map (·.size) = some (C9 l u m v e x t c g).size := by kernel_rfl
set_option maxRecDepth 100000 in
theorem rcut_early (s : ByteArray) (E : Int) (h : (s.size = 0 ∧ E = 3) ∨ (9999 < s.size ∧ E = 4)) : Mak 22 #[.string s] (.tuple #[.agg Z9, .int .i64 E]) := by
  intro w
  have hr : Hid (HR w w.heap.size Z9 46 (w.alloc (.cells Z9 46))) := Lib.hid ⟨heap_alloc_new w _⟩
  have HS : Hid (Since w (w.alloc (.cells Z9 46))) := Lib.hid ((Since.refl w).alloc _)
  unfold Z9 at hr HS
  rcases h with ⟨h, rfl⟩ | ⟨h, rfl⟩
  · obtain rfl : s = ⟨#[]⟩ := by apply ba_ext; exact List.length_eq_zero_iff.1 h
    clear h
    go_enter Tryz.func22, Tryz.ntmps22
    go_wp2_with (refine wpList_store_row rfl 46 _ _ rfl w.heap.size (Z9) (by rfl) (by rfl) _ _ hr.out.row (rz9_info) rfl (z9_one) ?_)
    exact bodyPost_ret (v := .tuple #[.agg Z9, .int .i64 3]) (results_cell_tmp2 Tryz.results22 _ _ _ _ _ _ _ _ rfl rfl (setRow_heap _ _ _ _ _ _ hr.out.row) Tryz.underlying46 rfl rz9_info) rfl ⟨rfl, below_setRow HS.out (Nat.le_refl _) _⟩
  · have b1 := some_bytes s (by omega)
    have b2 := some_bytes_f s (by omega)
    have t1 : decide ((9999 : Int) < (s.size : Int)) = true := decide_eq_true (by omega)
    clear h
    go_enter Tryz.func22, Tryz.ntmps22
    go_wp2_with (refine wpList_store_row rfl 46 _ _ rfl w.heap.size (Z9) (by rfl) (by rfl) _ _ hr.out.row (rz9_info) rfl (z9_one) ?_)
    exact bodyPost_ret (v := .tuple #[.agg Z9, .int .i64 4]) (results_cell_tmp2 Tryz.results22 _ _ _ _ _ _ _ _ rfl rfl (setRow_heap _ _ _ _ _ _ hr.out.row) Tryz.underlying46 rfl rz9_info) rfl ⟨rfl, below_setRow HS.out (Nat.le_refl _) _⟩
set_option maxRecDepth 100000 in
set_option maxHeartbeats 4000000 in
theorem rcut_dec (s : ByteArray) (h0 : 0 < s.size) (h9 : s.size ≤ 9999) (n k : Int) (l u m v e : ByteArray) (E : Int) (_e1 : (E == 0) = false) (e2 : (E != 0) = true) (c1 : Mak 46 #[.string s] (.tuple #[.agg #[.int .i64 n, .string l, .int .i64 k, .string u, .string m, .string v, .string e], .int .i64 E])) : Mak 22 #[.string s] (.tuple #[.agg Z9, .int .i64 E]) := by
  intro w
  have hr : Hid (HR w w.heap.size Z9 46 (w.alloc (.cells Z9 46))) := Lib.hid ⟨heap_alloc_new w _⟩
  have HS : Hid (Since w (w.alloc (.cells Z9 46))) := Lib.hid ((Since.refl w).alloc _)
  unfold Z9 at hr HS
  have b1 := some_bytes s (by omega)
  have b2 := some_bytes_f s (by omega)
  have t1 : decide ((9999 : Int) < (s.size : Int)) = false := decide_eq_false (by omega)
  go_enter Tryz.func22, Tryz.ntmps22
  go_wp2_with fail
  refine (c1.calls0) ?_
  intro w1 h1
  replace hr := Lib.hid (hr.out.step (by first | exact h1 | exact (Since.alloc (Since.refl _) _).step h1 | exact (Since.alloc (Since.alloc (Since.refl _) _) _).step h1 | exact (Since.drew (Since.refl _)).step h1 | exact (Since.alloc (Since.alloc (Since.alloc (Since.refl _) _) _) _).step h1))
  replace HS := Lib.hid (HS.out.step (by first | exact h1 | exact (Since.alloc (Since.refl _) _).step h1 | exact (Since.alloc (Since.alloc (Since.refl _) _) _).step h1 | exact (Since.drew (Since.refl _)).step h1 | exact (Since.alloc (Since.alloc (Since.alloc (Since.refl _) _) _) _).step h1))
  clear h1
  have hb := Lib.hid (hb_new w1 KT trivial #[.int .i64 n, .string l, .int .i64 k, .string u, .string m, .string v, .string e] 67)
  replace hr := Lib.hid (hr.out.step ((Below.refl _ w1).alloc (Nat.le_refl _) (.cells #[.int .i64 n, .string l, .int .i64 k, .string u, .string m, .string v, .string e] 67)))
  replace HS := Lib.hid (HS.out.step hb.out.since)
  obtain ⟨_, m0, m1, m2, m3, m4, m5, m6⟩ := hb7 hb
  go_wp2_with (refine wpList_store_row rfl 46 _ _ rfl w.heap.size (Z9) (by rfl) (by rfl) _ _ hr.out.row (rz9_info) rfl (z9_one) ?_)
  exact bodyPost_ret (v := .tuple #[.agg Z9, .int .i64 E]) (results_cell_tmp2 Tryz.results22 _ _ _ _ _ _ _ _ rfl rfl (setRow_heap _ _ _ _ _ _ hr.out.row) Tryz.underlying46 rfl rz9_info) rfl ⟨rfl, below_setRow HS.out (Nat.le_refl _) _⟩
set_option maxRecDepth 100000 in
set_option maxHeartbeats 4000000 in
theorem rcut_len (s : ByteArray) (h0 : 0 < s.size) (h9 : s.size ≤ 9999) (n k : Int) (l u m v e : ByteArray) (hl : (n != (s.size : Int)) = true) (c1 : Mak 46 #[.string s] (.tuple #[.agg #[.int .i64 n, .string l, .int .i64 k, .string u, .string m, .string v, .string e], .int .i64 0])) : Mak 22 #[.string s] (.tuple #[.agg Z9, .int .i64 5]) := by
  intro w
  have hr : Hid (HR w w.heap.size Z9 46 (w.alloc (.cells Z9 46))) := Lib.hid ⟨heap_alloc_new w _⟩
  have HS : Hid (Since w (w.alloc (.cells Z9 46))) := Lib.hid ((Since.refl w).alloc _)
  unfold Z9 at hr HS
  have b1 := some_bytes s (by omega)
  have b2 := some_bytes_f s (by omega)
  have t1 : decide ((9999 : Int) < (s.size : Int)) = false := decide_eq_false (by omega)
  go_enter Tryz.func22, Tryz.ntmps22
  go_wp2_with fail
  refine (c1.calls0) ?_
  intro w1 h1
  replace hr := Lib.hid (hr.out.step (by first | exact h1 | exact (Since.alloc (Since.refl _) _).step h1 | exact (Since.alloc (Since.alloc (Since.refl _) _) _).step h1 | exact (Since.drew (Since.refl _)).step h1 | exact (Since.alloc (Since.alloc (Since.alloc (Since.refl _) _) _) _).step h1))
  replace HS := Lib.hid (HS.out.step (by first | exact h1 | exact (Since.alloc (Since.refl _) _).step h1 | exact (Since.alloc (Since.alloc (Since.refl _) _) _).step h1 | exact (Since.drew (Since.refl _)).step h1 | exact (Since.alloc (Since.alloc (Since.alloc (Since.refl _) _) _) _).step h1))
  clear h1
  have hb := Lib.hid (hb_new w1 KT trivial #[.int .i64 n, .string l, .int .i64 k, .string u, .string m, .string v, .string e] 67)
  replace hr := Lib.hid (hr.out.step ((Below.refl _ w1).alloc (Nat.le_refl _) (.cells #[.int .i64 n, .string l, .int .i64 k, .string u, .string m, .string v, .string e] 67)))
  replace HS := Lib.hid (HS.out.step hb.out.since)
  obtain ⟨_, m0, m1, m2, m3, m4, m5, m6⟩ := hb7 hb
  go_wp2_with (refine wpList_store_row rfl 46 _ _ rfl w.heap.size (Z9) (by rfl) (by rfl) _ _ hr.out.row (rz9_info) rfl (z9_one) ?_)
  exact bodyPost_ret (v := .tuple #[.agg Z9, .int .i64 5]) (results_cell_tmp2 Tryz.results22 _ _ _ _ _ _ _ _ rfl rfl (setRow_heap _ _ _ _ _ _ hr.out.row) Tryz.underlying46 rfl rz9_info) rfl ⟨rfl, below_setRow HS.out (Nat.le_refl _) _⟩
set_option maxRecDepth 100000 in
set_option maxHeartbeats 4000000 in
theorem rcut_unp (s : ByteArray) (h0 : 0 < s.size) (h9 : s.size ≤ 9999) (n k : Int) (l u m v e : ByteArray) (hl : (n != (s.size : Int)) = false) (i1 : (16 : Int) ≤ (s.size : Int)) (T : ByteArray) (hT : s.extract 16 s.size = T) (c1 : Mak 46 #[.string s] (.tuple #[.agg #[.int .i64 n, .string l, .int .i64 k, .string u, .string m, .string v, .string e], .int .i64 0])) (O : List Opt.P2) (N E : Int) (_e1 : (E == 0) = false) (e2 : (E != 0) = true) (c2 : Opt.MkO 47 #[.string T, .int .i64 k] O N E) : Mak 22 #[.string s] (.tuple #[.agg Z9, .int .i64 E]) := by
  intro w
  subst hT
  have hr : Hid (HR w w.heap.size Z9 46 (w.alloc (.cells Z9 46))) := Lib.hid ⟨heap_alloc_new w _⟩
  have HS : Hid (Since w (w.alloc (.cells Z9 46))) := Lib.hid ((Since.refl w).alloc _)
  unfold Z9 at hr HS
  have b1 := some_bytes s (by omega)
  have b2 := some_bytes_f s (by omega)
  have t1 : decide ((9999 : Int) < (s.size : Int)) = false := decide_eq_false (by omega)
  go_enter Tryz.func22, Tryz.ntmps22
  go_wp2_with fail
  refine (c1.calls0) ?_
  intro w1 h1
  replace hr := Lib.hid (hr.out.step (by first | exact h1 | exact (Since.alloc (Since.refl _) _).step h1 | exact (Since.alloc (Since.alloc (Since.refl _) _) _).step h1 | exact (Since.drew (Since.refl _)).step h1 | exact (Since.alloc (Since.alloc (Since.alloc (Since.refl _) _) _) _).step h1))
  replace HS := Lib.hid (HS.out.step (by first | exact h1 | exact (Since.alloc (Since.refl _) _).step h1 | exact (Since.alloc (Since.alloc (Since.refl _) _) _).step h1 | exact (Since.drew (Since.refl _)).step h1 | exact (Since.alloc (Since.alloc (Since.alloc (Since.refl _) _) _) _).step h1))
  clear h1
  have hb := Lib.hid (hb_new w1 KT trivial #[.int .i64 n, .string l, .int .i64 k, .string u, .string m, .string v, .string e] 67)
  replace hr := Lib.hid (hr.out.step ((Below.refl _ w1).alloc (Nat.le_refl _) (.cells #[.int .i64 n, .string l, .int .i64 k, .string u, .string m, .string v, .string e] 67)))
  replace HS := Lib.hid (HS.out.step hb.out.since)
  obtain ⟨_, m0, m1, m2, m3, m4, m5, m6⟩ := hb7 hb
  go_wp2_with fail
  go_region_law (go_simp; go_at_call 47; refine c2.calls0 ?_; intro o w2 ho h2; replace hr := Lib.hid (hr.out.step (by first | exact h2 | exact Since.step (Since.drew (Since.refl _)) h2)); replace hb := Lib.hid (hb.out.step (by first | exact h2 | exact Since.step (Since.drew (Since.refl _)) h2)); replace HS := Lib.hid (HS.out.step (by first | exact h2 | exact Since.step (Since.drew (Since.refl _)) h2)); have HO := Lib.hid ho; clear ho h2)
  all_goals
    clear m0 m1 m2 m3 m4 m5 m6
    go_wp2_with (refine wpList_store_row rfl 46 _ _ rfl w.heap.size (Z9) (by rfl) (by rfl) _ _ hr.out.row (rz9_info) rfl (z9_one) ?_)
    exact bodyPost_ret (v := .tuple #[.agg Z9, .int .i64 E]) (results_cell_tmp2 Tryz.results22 _ _ _ _ _ _ _ _ rfl rfl (setRow_heap _ _ _ _ _ _ hr.out.row) Tryz.underlying46 rfl rz9_info) rfl ⟨rfl, below_setRow HS.out (Nat.le_refl _) _⟩
set_option maxRecDepth 100000 in
set_option maxHeartbeats 4000000 in
theorem rcut_from (s : ByteArray) (h0 : 0 < s.size) (h9 : s.size ≤ 9999) (n k : Int) (l u m v e : ByteArray) (hl : (n != (s.size : Int)) = false) (i1 : (16 : Int) ≤ (s.size : Int)) (T : ByteArray) (hT : s.extract 16 s.size = T) (c1 : Mak 46 #[.string s] (.tuple #[.agg #[.int .i64 n, .string l, .int .i64 k, .string u, .string m, .string v, .string e], .int .i64 0])) (O : List Opt.P2) (N E : Int) (_e1 : (E == 0) = false) (e2 : (E != 0) = true) (c2 : Opt.MkO 47 #[.string T, .int .i64 k] O N 0) (L : List A2) (c3 : MkF 48 O L E) : Mak 22 #[.string s] (.tuple #[.agg Z9, .int .i64 E]) := by
  intro w
  subst hT
  have hr : Hid (HR w w.heap.size Z9 46 (w.alloc (.cells Z9 46))) := Lib.hid ⟨heap_alloc_new w _⟩
  have HS : Hid (Since w (w.alloc (.cells Z9 46))) := Lib.hid ((Since.refl w).alloc _)
  unfold Z9 at hr HS
  have b1 := some_bytes s (by omega)
  have b2 := some_bytes_f s (by omega)
  have t1 : decide ((9999 : Int) < (s.size : Int)) = false := decide_eq_false (by omega)
  go_enter Tryz.func22, Tryz.ntmps22
  go_wp2_with fail
  refine (c1.calls0) ?_
  intro w1 h1
  replace hr := Lib.hid (hr.out.step (by first | exact h1 | exact (Since.alloc (Since.refl _) _).step h1 | exact (Since.alloc (Since.alloc (Since.refl _) _) _).step h1 | exact (Since.drew (Since.refl _)).step h1 | exact (Since.alloc (Since.alloc (Since.alloc (Since.refl _) _) _) _).step h1))
  replace HS := Lib.hid (HS.out.step (by first | exact h1 | exact (Since.alloc (Since.refl _) _).step h1 | exact (Since.alloc (Since.alloc (Since.refl _) _) _).step h1 | exact (Since.drew (Since.refl _)).step h1 | exact (Since.alloc (Since.alloc (Since.alloc (Since.refl _) _) _) _).step h1))
  clear h1
  have hb := Lib.hid (hb_new w1 KT trivial #[.int .i64 n, .string l, .int .i64 k, .string u, .string m, .string v, .string e] 67)
  replace hr := Lib.hid (hr.out.step ((Below.refl _ w1).alloc (Nat.le_refl _) (.cells #[.int .i64 n, .string l, .int .i64 k, .string u, .string m, .string v, .string e] 67)))
  replace HS := Lib.hid (HS.out.step hb.out.since)
  obtain ⟨_, m0, m1, m2, m3, m4, m5, m6⟩ := hb7 hb
  go_wp2_with fail
  go_region_law (go_simp; go_at_call 47; refine c2.calls0 ?_; intro o w2 ho h2; replace hr := Lib.hid (hr.out.step (by first | exact h2 | exact Since.step (Since.drew (Since.refl _)) h2)); replace hb := Lib.hid (hb.out.step (by first | exact h2 | exact Since.step (Since.drew (Since.refl _)) h2)); replace HS := Lib.hid (HS.out.step (by first | exact h2 | exact Since.step (Since.drew (Since.refl _)) h2)); have HO := Lib.hid ho; clear ho h2)
  all_goals
    clear m0 m1 m2 m3 m4 m5 m6
    go_wp2_with fail
    refine c3.calls0 HO.out ?_
    intro a w3 ha h3
    replace hr := Lib.hid (hr.out.step h3)
    replace hb := Lib.hid (hb.out.step h3)
    replace HS := Lib.hid (HS.out.step h3)
    obtain ⟨A, d, hav, _⟩ := ha.slice
    subst hav
    have HA := Lib.hid ha
    clear h3 ha HO
    go_wp2_with (refine wpList_store_row rfl 46 _ _ rfl w.heap.size (Z9) (by rfl) (by rfl) _ _ hr.out.row (rz9_info) rfl (z9_one) ?_)
    exact bodyPost_ret (v := .tuple #[.agg Z9, .int .i64 E]) (results_cell_tmp2 Tryz.results22 _ _ _ _ _ _ _ _ rfl rfl (setRow_heap _ _ _ _ _ _ hr.out.row) Tryz.underlying46 rfl rz9_info) rfl ⟨rfl, below_setRow HS.out (Nat.le_refl _) _⟩
set_option maxRecDepth 100000 in
set_option maxHeartbeats 4000000 in
theorem rcut_un (s : ByteArray) (h0 : 0 < s.size) (h9 : s.size ≤ 9999) (n k : Int) (l u m v e : ByteArray) (hl : (n != (s.size : Int)) = false) (i1 : (16 : Int) ≤ (s.size : Int)) (T : ByteArray) (hT : s.extract 16 s.size = T) (c1 : Mak 46 #[.string s] (.tuple #[.agg #[.int .i64 n, .string l, .int .i64 k, .string u, .string m, .string v, .string e], .int .i64 0])) (O : List Opt.P2) (N D : Nat) (hD : (16 : Int) + (N : Int) = (D : Int)) (i2 : (0 : Int) ≤ (D : Int)) (i3 : (D : Int) ≤ (s.size : Int)) (c2 : Opt.MkO 47 #[.string T, .int .i64 k] O (N : Int) 0) (L : List A2) (c3 : MkF 48 O L 0) (R S : ByteArray) (hR : s.extract D s.size = R) (B : Bool) (hB : B = false ∨ S.size < 32 ∨ S.size % 16 ≠ 0) (c4 : Mak 49 #[.string R] (.tuple #[.string S, .bool B])) : Mak 22 #[.string s] (.tuple #[.agg Z9, .int .i64 5]) := by
  intro w
  subst hT
  cases B with
  | false =>
    clear hB
    have hr : Hid (HR w w.heap.size Z9 46 (w.alloc (.cells Z9 46))) := Lib.hid ⟨heap_alloc_new w _⟩
    have HS : Hid (Since w (w.alloc (.cells Z9 46))) := Lib.hid ((Since.refl w).alloc _)
    unfold Z9 at hr HS
    have b1 := some_bytes s (by omega)
    have b2 := some_bytes_f s (by omega)
    have t1 : decide ((9999 : Int) < (s.size : Int)) = false := decide_eq_false (by omega)
    go_enter Tryz.func22, Tryz.ntmps22
    go_wp2_with fail
    refine (c1.calls0) ?_
    intro w1 h1
    replace hr := Lib.hid (hr.out.step (by first | exact h1 | exact (Since.alloc (Since.refl _) _).step h1 | exact (Since.alloc (Since.alloc (Since.refl _) _) _).step h1 | exact (Since.drew (Since.refl _)).step h1 | exact (Since.alloc (Since.alloc (Since.alloc (Since.refl _) _) _) _).step h1))
    replace HS := Lib.hid (HS.out.step (by first | exact h1 | exact (Since.alloc (Since.refl _) _).step h1 | exact (Since.alloc (Since.alloc (Since.refl _) _) _).step h1 | exact (Since.drew (Since.refl _)).step h1 | exact (Since.alloc (Since.alloc (Since.alloc (Since.refl _) _) _) _).step h1))
    clear h1
    have hb := Lib.hid (hb_new w1 KT trivial #[.int .i64 n, .string l, .int .i64 k, .string u, .string m, .string v, .string e] 67)
    replace hr := Lib.hid (hr.out.step ((Below.refl _ w1).alloc (Nat.le_refl _) (.cells #[.int .i64 n, .string l, .int .i64 k, .string u, .string m, .string v, .string e] 67)))
    replace HS := Lib.hid (HS.out.step hb.out.since)
    obtain ⟨_, m0, m1, m2, m3, m4, m5, m6⟩ := hb7 hb
    go_wp2_with fail
    go_region_law (go_simp; go_at_call 47; refine c2.calls0 ?_; intro o w2 ho h2; replace hr := Lib.hid (hr.out.step (by first | exact h2 | exact Since.step (Since.drew (Since.refl _)) h2)); replace hb := Lib.hid (hb.out.step (by first | exact h2 | exact Since.step (Since.drew (Since.refl _)) h2)); replace HS := Lib.hid (HS.out.step (by first | exact h2 | exact Since.step (Since.drew (Since.refl _)) h2)); have HO := Lib.hid ho; clear ho h2)
    all_goals
      clear m0 m1 m2 m3 m4 m5 m6
      go_wp2_with fail
      refine c3.calls0 HO.out ?_
      intro a w3 ha h3
      replace hr := Lib.hid (hr.out.step h3)
      replace hb := Lib.hid (hb.out.step h3)
      replace HS := Lib.hid (HS.out.step h3)
      obtain ⟨A, d, hav, _⟩ := ha.slice
      subst hav
      have HA := Lib.hid ha
      clear h3 ha HO
      go_wp2_with fail
      refine c4.calls0 ?_
      intro w4 h4
      replace hr := Lib.hid (hr.out.step h4)
      replace hb := Lib.hid (hb.out.step h4)
      replace HS := Lib.hid (HS.out.step h4)
      replace HA := Lib.hid (HA.out.since h4)
      clear h4
      go_wp2_with (refine wpList_store_row rfl 46 _ _ rfl w.heap.size (Z9) (by rfl) (by rfl) _ _ hr.out.row (rz9_info) rfl (z9_one) ?_)
      exact bodyPost_ret (v := .tuple #[.agg Z9, .int .i64 5]) (results_cell_tmp2 Tryz.results22 _ _ _ _ _ _ _ _ rfl rfl (setRow_heap _ _ _ _ _ _ hr.out.row) Tryz.underlying46 rfl rz9_info) rfl ⟨rfl, below_setRow HS.out (Nat.le_refl _) _⟩
  | true =>
    by_cases h32 : S.size < 32
    · have t2 : decide ((S.size : Int) < 32) = true := decide_eq_true (by omega)
      clear hB h32
      have hr : Hid (HR w w.heap.size Z9 46 (w.alloc (.cells Z9 46))) := Lib.hid ⟨heap_alloc_new w _⟩
      have HS : Hid (Since w (w.alloc (.cells Z9 46))) := Lib.hid ((Since.refl w).alloc _)
      unfold Z9 at hr HS
      have b1 := some_bytes s (by omega)
      have b2 := some_bytes_f s (by omega)
      have t1 : decide ((9999 : Int) < (s.size : Int)) = false := decide_eq_false (by omega)
      go_enter Tryz.func22, Tryz.ntmps22
      go_wp2_with fail
      refine (c1.calls0) ?_
      intro w1 h1
      replace hr := Lib.hid (hr.out.step (by first | exact h1 | exact (Since.alloc (Since.refl _) _).step h1 | exact (Since.alloc (Since.alloc (Since.refl _) _) _).step h1 | exact (Since.drew (Since.refl _)).step h1 | exact (Since.alloc (Since.alloc (Since.alloc (Since.refl _) _) _) _).step h1))
      replace HS := Lib.hid (HS.out.step (by first | exact h1 | exact (Since.alloc (Since.refl _) _).step h1 | exact (Since.alloc (Since.alloc (Since.refl _) _) _).step h1 | exact (Since.drew (Since.refl _)).step h1 | exact (Since.alloc (Since.alloc (Since.alloc (Since.refl _) _) _) _).step h1))
      clear h1
      have hb := Lib.hid (hb_new w1 KT trivial #[.int .i64 n, .string l, .int .i64 k, .string u, .string m, .string v, .string e] 67)
      replace hr := Lib.hid (hr.out.step ((Below.refl _ w1).alloc (Nat.le_refl _) (.cells #[.int .i64 n, .string l, .int .i64 k, .string u, .string m, .string v, .string e] 67)))
      replace HS := Lib.hid (HS.out.step hb.out.since)
      obtain ⟨_, m0, m1, m2, m3, m4, m5, m6⟩ := hb7 hb
      go_wp2_with fail
      go_region_law (go_simp; go_at_call 47; refine c2.calls0 ?_; intro o w2 ho h2; replace hr := Lib.hid (hr.out.step (by first | exact h2 | exact Since.step (Since.drew (Since.refl _)) h2)); replace hb := Lib.hid (hb.out.step (by first | exact h2 | exact Since.step (Since.drew (Since.refl _)) h2)); replace HS := Lib.hid (HS.out.step (by first | exact h2 | exact Since.step (Since.drew (Since.refl _)) h2)); have HO := Lib.hid ho; clear ho h2)
      all_goals
        clear m0 m1 m2 m3 m4 m5 m6
        go_wp2_with fail
        refine c3.calls0 HO.out ?_
        intro a w3 ha h3
        replace hr := Lib.hid (hr.out.step h3)
        replace hb := Lib.hid (hb.out.step h3)
        replace HS := Lib.hid (HS.out.step h3)
        obtain ⟨A, d, hav, _⟩ := ha.slice
        subst hav
        have HA := Lib.hid ha
        clear h3 ha HO
        go_wp2_with fail
        refine c4.calls0 ?_
        intro w4 h4
        replace hr := Lib.hid (hr.out.step h4)
        replace hb := Lib.hid (hb.out.step h4)
        replace HS := Lib.hid (HS.out.step h4)
        replace HA := Lib.hid (HA.out.since h4)
        clear h4
        go_wp2_with (refine wpList_store_row rfl 46 _ _ rfl w.heap.size (Z9) (by rfl) (by rfl) _ _ hr.out.row (rz9_info) rfl (z9_one) ?_)
        exact bodyPost_ret (v := .tuple #[.agg Z9, .int .i64 5]) (results_cell_tmp2 Tryz.results22 _ _ _ _ _ _ _ _ rfl rfl (setRow_heap _ _ _ _ _ _ hr.out.row) Tryz.underlying46 rfl rz9_info) rfl ⟨rfl, below_setRow HS.out (Nat.le_refl _) _⟩
    · have t2 : decide ((S.size : Int) < 32) = false := decide_eq_false (by omega)
      have hm : S.size % 16 ≠ 0 := by rcases hB with h | h | h; cases h; omega; exact h
      have t3 : ((S.size : Int) % 16 != 0) = true := bne_iff_ne.2 (by omega)
      have t4 : ((S.size : Int).tmod 16 != 0) = true := bne_iff_ne.2 (by rw [Int.tmod_eq_emod_of_nonneg (by omega)]; omega)
      clear hB h32 hm
      have hr : Hid (HR w w.heap.size Z9 46 (w.alloc (.cells Z9 46))) := Lib.hid ⟨heap_alloc_new w _⟩
      have HS : Hid (Since w (w.alloc (.cells Z9 46))) := Lib.hid ((Since.refl w).alloc _)
      unfold Z9 at hr HS
      have b1 := some_bytes s (by omega)
      have b2 := some_bytes_f s (by omega)
      have t1 : decide ((9999 : Int) < (s.size : Int)) = false := decide_eq_false (by omega)
      go_enter Tryz.func22, Tryz.ntmps22
      go_wp2_with fail
      refine (c1.calls0) ?_
      intro w1 h1
      replace hr := Lib.hid (hr.out.step (by first | exact h1 | exact (Since.alloc (Since.refl _) _).step h1 | exact (Since.alloc (Since.alloc (Since.refl _) _) _).step h1 | exact (Since.drew (Since.refl _)).step h1 | exact (Since.alloc (Since.alloc (Since.alloc (Since.refl _) _) _) _).step h1))
      replace HS := Lib.hid (HS.out.step (by first | exact h1 | exact (Since.alloc (Since.refl _) _).step h1 | exact (Since.alloc (Since.alloc (Since.refl _) _) _).step h1 | exact (Since.drew (Since.refl _)).step h1 | exact (Since.alloc (Since.alloc (Since.alloc (Since.refl _) _) _) _).step h1))
      clear h1
      have hb := Lib.hid (hb_new w1 KT trivial #[.int .i64 n, .string l, .int .i64 k, .string u, .string m, .string v, .string e] 67)
      replace hr := Lib.hid (hr.out.step ((Below.refl _ w1).alloc (Nat.le_refl _) (.cells #[.int .i64 n, .string l, .int .i64 k, .string u, .string m, .string v, .string e] 67)))
      replace HS := Lib.hid (HS.out.step hb.out.since)
      obtain ⟨_, m0, m1, m2, m3, m4, m5, m6⟩ := hb7 hb
      go_wp2_with fail
      go_region_law (go_simp; go_at_call 47; refine c2.calls0 ?_; intro o w2 ho h2; replace hr := Lib.hid (hr.out.step (by first | exact h2 | exact Since.step (Since.drew (Since.refl _)) h2)); replace hb := Lib.hid (hb.out.step (by first | exact h2 | exact Since.step (Since.drew (Since.refl _)) h2)); replace HS := Lib.hid (HS.out.step (by first | exact h2 | exact Since.step (Since.drew (Since.refl _)) h2)); have HO := Lib.hid ho; clear ho h2)
      all_goals
        clear m0 m1 m2 m3 m4 m5 m6
        go_wp2_with fail
        refine c3.calls0 HO.out ?_
        intro a w3 ha h3
        replace hr := Lib.hid (hr.out.step h3)
        replace hb := Lib.hid (hb.out.step h3)
        replace HS := Lib.hid (HS.out.step h3)
        obtain ⟨A, d, hav, _⟩ := ha.slice
        subst hav
        have HA := Lib.hid ha
        clear h3 ha HO
        go_wp2_with fail
        refine c4.calls0 ?_
        intro w4 h4
        replace hr := Lib.hid (hr.out.step h4)
        replace hb := Lib.hid (hb.out.step h4)
        replace HS := Lib.hid (HS.out.step h4)
        replace HA := Lib.hid (HA.out.since h4)
        clear h4
        go_wp2_with (refine wpList_store_row rfl 46 _ _ rfl w.heap.size (Z9) (by rfl) (by rfl) _ _ hr.out.row (rz9_info) rfl (z9_one) ?_)
        exact bodyPost_ret (v := .tuple #[.agg Z9, .int .i64 5]) (results_cell_tmp2 Tryz.results22 _ _ _ _ _ _ _ _ rfl rfl (setRow_heap _ _ _ _ _ _ hr.out.row) Tryz.underlying46 rfl rz9_info) rfl ⟨rfl, below_setRow HS.out (Nat.le_refl _) _⟩
theorem cutK_b (s : ByteArray) : 0 ≤ cutK s ∧ cutK s ≤ 9223372036854775807 := by
  have hl : (s.extract 12 14).data.toList.length ≤ 2 := by
    show (s.extract 12 14).size ≤ 2
    rw [ByteArray.size_extract]; omega
  unfold cutK
  generalize (s.extract 12 14).data.toList = t at hl ⊢
  match t, hl with
  | [], _ => decide
  | [a], _ => have := a.toNat_lt; unfold Dig.numD; simp only [List.foldl]; omega
  | [a, b], _ => have := a.toNat_lt; have := b.toNat_lt; unfold Dig.numD; simp only [List.foldl]; omega
def CutR (s l u m v e : ByteArray) (L : List A2) (P C G : ByteArray) : Prop := ∀ w, Calls Tryz.prog 22 #[.string s] w fun x w' => ∃ a, x = .returned (.tuple #[.agg (C9 l u m v e a P C G), .int .i64 0]) ∧ AttsS w' a L ∧ Below w.heap.size w w'
set_option maxRecDepth 100000 in
theorem CutR.calls0 {s l u m v e : ByteArray} {L : List A2} {P C G : ByteArray} (h : CutR s l u m v e L P C G) {w : World} {R : Ending → World → Prop} (k : ∀ a w', AttsS w' a L → Since w w' → R (.returned (.tuple #[.agg (C9 l u m v e a P C G), .int .i64 0])) w') : Calls Tryz.prog 22 #[.string s] w R :=
  (h w).mono fun _ _ ⟨a, he, ha, hb⟩ => by subst he; exact k a _ ha hb
set_option maxRecDepth 100000 in
set_option maxHeartbeats 4000000 in
theorem rcut_ok (s : ByteArray) (h0 : 0 < s.size) (h9 : s.size ≤ 9999) (n k : Int) (l u m v e : ByteArray) (hl : (n != (s.size : Int)) = false) (i1 : (16 : Int) ≤ (s.size : Int)) (T : ByteArray) (hT : s.extract 16 s.size = T) (c1 : Mak 46 #[.string s] (.tuple #[.agg #[.int .i64 n, .string l, .int .i64 k, .string u, .string m, .string v, .string e], .int .i64 0])) (O : List Opt.P2) (N D : Nat) (hD : (16 : Int) + (N : Int) = (D : Int)) (i2 : (0 : Int) ≤ (D : Int)) (i3 : (D : Int) ≤ (s.size : Int)) (c2 : Opt.MkO 47 #[.string T, .int .i64 k] O (N : Int) 0) (L : List A2) (c3 : MkF 48 O L 0) (P R S C G : ByteArray) (hP : s.extract 0 D = P) (hR : s.extract D s.size = R) (hz : S.size ≤ 1000000) (h32 : 32 ≤ S.size) (h16 : S.size % 16 = 0) (M : Nat) (hM : M + 16 = S.size) (hC : S.extract 0 M = C) (hG : S.extract M S.size = G) (c4 : Mak 49 #[.string R] (.tuple #[.string S, .bool true])) : CutR s l u m v e L P C G := by
  intro w
  have t2 : decide ((S.size : Int) < 32) = false := decide_eq_false (by omega)
  have t3 : ((S.size : Int) % 16 != 0) = false := bne_eq_false_iff_eq.2 (by omega)
  have t4 : ((S.size : Int).tmod 16 != 0) = false := bne_eq_false_iff_eq.2 (by rw [Int.tmod_eq_emod_of_nonneg (by omega)]; omega)
  have q1 : IntKind.i64.wrap ((S.size : Int) - 16) = (M : Int) := by rw [IntWalk.i64_in _ (by omega)]; omega
  have q2 : (S.size : Int) - 16 = (M : Int) := by omega
  have q0 : IntKind.i64.wrap (D : Int) = (D : Int) := IntWalk.i64_in _ (by omega)
  have q3 : IntKind.i64.wrap (M : Int) = (M : Int) := IntWalk.i64_in _ (by omega)
  have i4 : (0 : Int) ≤ (M : Int) := by omega
  have i5 : (M : Int) ≤ (S.size : Int) := by omega
  subst hT
  clear h16 hM
  have hr : Hid (HR w w.heap.size Z9 46 (w.alloc (.cells Z9 46))) := Lib.hid ⟨heap_alloc_new w _⟩
  have HS : Hid (Since w (w.alloc (.cells Z9 46))) := Lib.hid ((Since.refl w).alloc _)
  unfold Z9 at hr HS
  have b1 := some_bytes s (by omega)
  have b2 := some_bytes_f s (by omega)
  have t1 : decide ((9999 : Int) < (s.size : Int)) = false := decide_eq_false (by omega)
  go_enter Tryz.func22, Tryz.ntmps22
  go_wp2_with fail
  refine (c1.calls0) ?_
  intro w1 h1
  replace hr := Lib.hid (hr.out.step (by first | exact h1 | exact (Since.alloc (Since.refl _) _).step h1 | exact (Since.alloc (Since.alloc (Since.refl _) _) _).step h1 | exact (Since.drew (Since.refl _)).step h1 | exact (Since.alloc (Since.alloc (Since.alloc (Since.refl _) _) _) _).step h1))
  replace HS := Lib.hid (HS.out.step (by first | exact h1 | exact (Since.alloc (Since.refl _) _).step h1 | exact (Since.alloc (Since.alloc (Since.refl _) _) _).step h1 | exact (Since.drew (Since.refl _)).step h1 | exact (Since.alloc (Since.alloc (Since.alloc (Since.refl _) _) _) _).step h1))
  clear h1
  have hb := Lib.hid (hb_new w1 KT trivial #[.int .i64 n, .string l, .int .i64 k, .string u, .string m, .string v, .string e] 67)
  replace hr := Lib.hid (hr.out.step ((Below.refl _ w1).alloc (Nat.le_refl _) (.cells #[.int .i64 n, .string l, .int .i64 k, .string u, .string m, .string v, .string e] 67)))
  replace HS := Lib.hid (HS.out.step hb.out.since)
  obtain ⟨_, m0, m1, m2, m3, m4, m5, m6⟩ := hb7 hb
  go_wp2_with fail
  go_region_law (go_simp; go_at_call 47; refine c2.calls0 ?_; intro o w2 ho h2; replace hr := Lib.hid (hr.out.step (by first | exact h2 | exact Since.step (Since.drew (Since.refl _)) h2)); replace hb := Lib.hid (hb.out.step (by first | exact h2 | exact Since.step (Since.drew (Since.refl _)) h2)); replace HS := Lib.hid (HS.out.step (by first | exact h2 | exact Since.step (Since.drew (Since.refl _)) h2)); have HO := Lib.hid ho; clear ho h2)
  all_goals
    clear m0 m1 m2 m3 m4 m5 m6
    go_wp2_with fail
    refine c3.calls1 HO.out ?_
    intro a w3 ha h3
    have hne : Hid (∀ b, a.blockOf = some b → b ≠ w.heap.size) := Lib.hid (fresh_ne ha.2 (Array.getElem?_eq_some_iff.1 hr.out.row).1)
    replace hr := Lib.hid (hr.out.step h3)
    replace hb := Lib.hid (hb.out.step h3)
    replace HS := Lib.hid (HS.out.step h3)
    have hA0 := ha.1
    obtain ⟨A, d, hav, _⟩ := hA0.slice
    subst hav
    have HA := Lib.hid hA0
    clear h3 ha HO hA0
    go_wp2_with fail
    refine c4.calls0 ?_
    intro w4 h4
    replace hr := Lib.hid (hr.out.step h4)
    replace hb := Lib.hid (hb.out.step h4)
    replace HS := Lib.hid (HS.out.step h4)
    replace HA := Lib.hid (HA.out.since h4)
    clear h4
    obtain ⟨_, m0, m1, m2, m3, m4, m5, m6⟩ := hb7 hb
    go_wp2_with fail
    go_still_tail 20, (by kernel_rfl)
    refine wpList_store_row (w := w4.drew) rfl 46 _ _ rfl w.heap.size (C9 l u m v e (.slice A L.length d) P C G) (by rfl) (by rfl) _ _ hr.out.row (rc9_info _ _ _ _ _ _ _ _ _) rfl (c9_one _ _ _ _ _ _ _ _ _ _ _) ?_
    go_wp2_with fail
    exact bodyPost_ret (v := .tuple #[.agg (C9 l u m v e (.slice A L.length d) P C G), .int .i64 0]) (results_cell_tmp2 Tryz.results22 _ _ _ _ _ _ _ _ rfl rfl (setRow_heap w4.drew _ _ _ _ _ hr.out.row) Tryz.underlying46 rfl (rc9_info _ _ _ _ _ _ _ _ _)) rfl ⟨_, rfl, far_rows (HA.out.since (Since.drew (Since.refl _))) w.heap.size hne.out _, below_setRow (Since.drew HS.out) (Nat.le_refl _) _⟩
theorem rcut_bad (s : ByteArray) (hm : s.size ≤ 60000) (h : cutE s ≠ 0) : Mak 22 #[.string s] (.tuple #[.agg Z9, .int .i64 (cutE s)]) := by
  by_cases h0 : s.size = 0
  · have e : cutE s = 3 := by have e2 : begE s = 3 := if_pos h0; unfold cutE; rw [e2, if_pos (by decide)]
    rw [e]; exact rcut_early s 3 (Or.inl ⟨h0, rfl⟩)
  by_cases h9 : 9999 < s.size
  · have e : cutE s = 4 := by have e2 : begE s = 4 := by { unfold begE; rw [if_neg h0, if_pos h9] }; unfold cutE; rw [e2, if_pos (by decide)]
    rw [e]; exact rcut_early s 4 (Or.inr ⟨h9, rfl⟩)
  have c1 := rdec_any s (by omega)
  rcases dec_cases s with ⟨hE, hV⟩ | ⟨hE, hF, hk⟩
  · have e : begE s = Header.decE s := by unfold begE; rw [if_neg h0, if_neg h9, if_pos hE]
    have e2 : cutE s = Header.decE s := by unfold cutE; rw [e, if_pos hE]
    rw [e2]
    rw [hV] at c1
    exact rcut_dec s (by omega) (by omega) 0 0 _ _ _ _ _ _ (beq_eq_false_iff_ne.2 hE) (bne_iff_ne.2 hE) c1
  · have hv : Header.decV s = C7 (Dig.numD (s.extract 1 5).data.toList : Int) (cutK s) (s.extract 7 8) (s.extract 5 7) (s.extract 8 9) (s.extract 9 11) (s.extract 11 12) := if_pos ⟨hF, hk⟩
    rw [hv, hE] at c1
    by_cases hn : Dig.numD (s.extract 1 5).data.toList = s.size
    case neg =>
      have e : begE s = 5 := by unfold begE; rw [if_neg h0, if_neg h9, if_neg (fun h => h hE), if_pos hn]
      have e2 : cutE s = 5 := by unfold cutE; rw [e, if_pos (by decide)]
      rw [e2]
      exact rcut_len s (by omega) (by omega) _ _ _ _ _ _ _ (bne_iff_ne.2 (by omega)) c1
    have hb : begE s = 0 := by unfold begE; rw [if_neg h0, if_neg h9, if_neg (fun h => h hE), if_neg (fun h => h hn)]
    have h16 : 16 ≤ s.size := (beg_ok0 s hb).1
    have hl : (((Dig.numD (s.extract 1 5).data.toList : Nat) : Int) != (s.size : Int)) = false := bne_eq_false_iff_eq.2 (by omega)
    unfold cutE at h ⊢
    rw [if_neg (fun h2 => h2 hb)] at h ⊢
    have hTs : (cutT s).size ≤ 9999 := by unfold cutT; rw [ByteArray.size_extract]; omega
    have hKb := cutK_b s
    have c2 := Opt.runpack_any (cutT s) hTs (cutK s) (by omega)
    by_cases hu : Opt.unpE (cutT s) (cutK s) = 0
    case neg =>
      rw [if_pos hu] at h ⊢
      exact rcut_unp s (by omega) (by omega) _ _ _ _ _ _ _ hl (by omega) (cutT s) rfl c1 _ _ _ (beq_eq_false_iff_ne.2 hu) (bne_iff_ne.2 hu) c2
    rw [if_neg (fun h2 => h2 hu)] at h ⊢
    obtain ⟨u1, u2, u3⟩ := unp_bounds _ _ hu
    rw [hu] at c2
    have c3 := rfrom_mk (cutO s) (fun p hp => by have := u3 p hp; omega) rdecode_mk
    by_cases hf : fE (cutO s) = 0
    case neg =>
      rw [if_pos hf] at h ⊢
      exact rcut_from s (by omega) (by omega) _ _ _ _ _ _ _ hl (by omega) (cutT s) rfl c1 _ _ _ (beq_eq_false_iff_ne.2 hf) (bne_iff_ne.2 hf) c2 _ c3
    rw [if_neg (fun h2 => h2 hf)] at h ⊢
    rw [hf] at c3
    have hN : Opt.unpN (cutT s) (cutK s) = ((Opt.unpN (cutT s) (cutK s)).toNat : Int) := by omega
    have hTz : (cutT s).size = s.size - 16 := by unfold cutT; rw [ByteArray.size_extract]; omega
    rw [hN] at c2
    have c4 := runhex_all (s.extract (cutD s) s.size) (by rw [ByteArray.size_extract]; omega)
    have hsel : okT (cutR s) = false := by
      unfold selE at h
      cases hq : okT (cutR s) with
      | false => rfl
      | true => rw [hq, if_pos rfl] at h; exact absurd rfl h
    have e5 : selE (cutR s) = 5 := by unfold selE; rw [hsel, if_neg (by decide)]
    rw [e5]
    refine rcut_un s (by omega) (by omega) _ _ _ _ _ _ _ hl (by omega) (cutT s) rfl c1 _ (Opt.unpN (cutT s) (cutK s)).toNat (cutD s) (by unfold cutD; omega) (by omega) (by unfold cutD; omega) c2 _ c3 _ _ rfl _ ?_ c4
    cases hq : Dig.unB (s.extract (cutD s) s.size).data.toList with
    | false => exact Or.inl rfl
    | true =>
      right
      apply Classical.byContradiction
      intro hh
      have : okT (cutR s) = true := by
        unfold okT cutR
        rw [hq, decide_eq_true (by omega), decide_eq_true (by omega)]; rfl
      rw [hsel] at this; cases this
theorem rcut_good (s : ByteArray) (h : cutE s = 0) : CutR s (s.extract 7 8) (s.extract 5 7) (s.extract 8 9) (s.extract 9 11) (s.extract 11 12) (fL (cutO s)) (s.extract 0 (cutD s)) (selC (cutR s)) (selT (cutR s)) := by
  obtain ⟨h1, h2, h3, h4⟩ := cut_facts s h
  obtain ⟨d1, d2, d3, d4⟩ := cut_sizes s h
  obtain ⟨h16, h9, hv, hF, hk, hn⟩ := beg_ok0 s h1
  obtain ⟨u1, u2, u3⟩ := unp_bounds _ _ h2
  have c1 := rdec_any s (by omega)
  rcases dec_cases s with ⟨hE, hV⟩ | ⟨hE, _, _⟩
  · exfalso; rw [hV] at hv; unfold begE at h1; rw [if_neg (by omega), if_neg (by omega), if_pos hE] at h1; exact hE h1
  rw [hv, hE] at c1
  have hKb := cutK_b s
  have hTz : (cutT s).size = s.size - 16 := by unfold cutT; rw [ByteArray.size_extract]; omega
  have c2 := Opt.runpack_any (cutT s) (by omega) (cutK s) (by omega)
  rw [h2, d4] at c2
  have c3 := rfrom_mk (cutO s) (fun p hp => by have := u3 p hp; omega) rdecode_mk
  rw [h3] at c3
  have c4 := runhex_all (s.extract (cutD s) s.size) (by rw [ByteArray.size_extract]; omega)
  have hsel : okT (cutR s) = true := by
    unfold selE at h4
    cases hq : okT (cutR s) with
    | true => rfl
    | false => rw [hq, if_neg (by decide)] at h4; cases h4
  have hC : selC (cutR s) = (Dig.unS (cutR s)).extract 0 ((Dig.unS (cutR s)).size - 16) := by unfold selC; rw [if_pos hsel]
  have hG : selT (cutR s) = (Dig.unS (cutR s)).extract ((Dig.unS (cutR s)).size - 16) (Dig.unS (cutR s)).size := by unfold selT; rw [if_pos hsel]
  unfold okT at hsel
  simp only [Bool.and_eq_true, decide_eq_true_eq] at hsel
  obtain ⟨⟨g1, g2⟩, g3⟩ := hsel
  have g1' : Dig.unB (s.extract (cutD s) s.size).data.toList = true := g1
  rw [g1'] at c4
  have hUz : (Dig.unS (cutR s)).size ≤ 1000000 := by
    have hl := unS_le (cutR s)
    have hl2 : (cutR s).length = (s.extract (cutD s) s.size).size := rfl
    rw [ByteArray.size_extract] at hl2
    omega
  rw [hC, hG]
  exact rcut_ok s (by omega) (by omega) _ _ _ _ _ _ _ (bne_eq_false_iff_eq.2 (by omega)) (by omega) (cutT s) rfl c1 _ (Opt.unpN (cutT s) (cutK s)).toNat (cutD s) (by unfold cutD; omega) (by omega) (by unfold cutD; omega) c2 _ c3 _ _ (Dig.unS (cutR s)) _ _ rfl rfl hUz g2 g3 ((Dig.unS (cutR s)).size - 16) (by omega) rfl rfl c4
end Frame
end Go.Proofs.YtgfdomdbjiflmaaGreatDoor

/- The reference of limit: what blobs cost. -/
namespace Go.Proofs.YtgfdomdbjiflmaaGreatDoor
open Go.RowKit
namespace RefLimit
open Att Templ Header Go.Proofs.YtgfdomdbjiflmaaGreatDoor.Frame Flt Limit

theorem keys_of (kek : ByteArray) (h : kk (kek.size : Int) = true) : ∃ q1 q2 q3 : Bool, ((kek.size : Int) == 16) = q1 ∧ ((kek.size : Int) == 24) = q2 ∧ ((kek.size : Int) == 32) = q3 ∧ ((q1 = true ∧ q2 = false ∧ q3 = false) ∨ (q1 = false ∧ q2 = true ∧ q3 = false) ∨ (q1 = false ∧ q2 = false ∧ q3 = true)) := by
  refine ⟨_, _, _, rfl, rfl, rfl, ?_⟩
  unfold kk at h
  simp only [Bool.or_eq_true, beq_iff_eq] at h
  rcases h with (h | h) | h <;> rw [h] <;> decide
set_option maxRecDepth 100000 in
set_option maxHeartbeats 2000000 in
theorem blocks_w (kek b : ByteArray) (c1 : Ret 6 #[.int .i64 1, .int .i64 (b.size : Int)] (.bool true))
    (q1 q2 q3 : Bool) (h1 : ((kek.size : Int) == 16) = q1) (h2 : ((kek.size : Int) == 24) = q2) (h3 : ((kek.size : Int) == 32) = q3) (hk : (q1 = true ∧ q2 = false ∧ q3 = false) ∨ (q1 = false ∧ q2 = true ∧ q3 = false) ∨ (q1 = false ∧ q2 = false ∧ q3 = true))
    (X : Int) (hb : (b.size = 16 ∧ X = 1) ∨ (b.size ≠ 16 ∧ 24 ≤ b.size ∧ b.size ≤ 100000 ∧ Ret 21 #[.int .i64 ((b.size : Int) - 8)] (.int .i64 X))) : Mak 7 #[.string kek, .int .i64 1, .string b] (.int .i64 X) := by
  intro w
  have k1 : ((kek.size : Int) == 16) = q1 := h1
  have k2 : ((kek.size : Int) == 24) = q2 := h2
  have k3 : ((kek.size : Int) == 32) = q3 := h3
  have n1 : ((kek.size : Int) != 16) = !q1 := by rw [bne, h1]
  have n2 : ((kek.size : Int) != 24) = !q2 := by rw [bne, h2]
  have n3 : ((kek.size : Int) != 32) = !q3 := by rw [bne, h3]
  clear h1 h2 h3
  rcases hk with ⟨rfl, rfl, rfl⟩ | ⟨rfl, rfl, rfl⟩ | ⟨rfl, rfl, rfl⟩
  all_goals simp only [Bool.not_true, Bool.not_false] at n1 n2 n3
  all_goals
    rcases hb with ⟨e, rfl⟩ | ⟨e, g1, g2, c2⟩
    · have t1 : ((b.size : Int) == 16) = true := by rw [beq_iff_eq]; omega
      clear e
      go_enter Tryz.func7, Tryz.ntmps7
      go_wp2_with fail
      refine (c1).calls ?_
      go_wp2_with fail
      go_ret
      exact ⟨rfl, Below.refl _ _⟩
    · have t1 : ((b.size : Int) == 16) = false := by rw [beq_eq_false_iff_ne]; omega
      clear e
      go_enter Tryz.func7, Tryz.ntmps7
      go_wp2_with fail
      refine (c1).calls ?_
      go_wp2_with fail
      refine (c2).calls ?_
      go_wp2_with fail
      go_ret
      exact ⟨rfl, Below.refl _ _⟩
set_option maxRecDepth 100000 in
set_option maxHeartbeats 2000000 in
theorem blocks_bad (kek b : ByteArray) (c1 : Ret 6 #[.int .i64 2, .int .i64 (b.size : Int)] (.bool true))
    (q1 q2 q3 : Bool) (h1 : ((kek.size : Int) == 16) = q1) (h2 : ((kek.size : Int) == 24) = q2) (h3 : ((kek.size : Int) == 32) = q3) (hk : (q1 = true ∧ q2 = false ∧ q3 = false) ∨ (q1 = false ∧ q2 = true ∧ q3 = false) ∨ (q1 = false ∧ q2 = false ∧ q3 = true))
    (E : Int) (hE : (E != 0) = true) (c2 : Mak 22 #[.string b] (.tuple #[.agg Z9, .int .i64 E])) : Mak 7 #[.string kek, .int .i64 2, .string b] (.int .i64 0) := by
  intro w
  unfold Z9 at c2
  have HS := Lib.hid (Since.refl w)
  have k1 : ((kek.size : Int) == 16) = q1 := h1
  have k2 : ((kek.size : Int) == 24) = q2 := h2
  have k3 : ((kek.size : Int) == 32) = q3 := h3
  have n1 : ((kek.size : Int) != 16) = !q1 := by rw [bne, h1]
  have n2 : ((kek.size : Int) != 24) = !q2 := by rw [bne, h2]
  have n3 : ((kek.size : Int) != 32) = !q3 := by rw [bne, h3]
  clear h1 h2 h3
  rcases hk with ⟨rfl, rfl, rfl⟩ | ⟨rfl, rfl, rfl⟩ | ⟨rfl, rfl, rfl⟩
  all_goals simp only [Bool.not_true, Bool.not_false] at n1 n2 n3
  all_goals
    go_enter Tryz.func7, Tryz.ntmps7
    go_wp2_with fail
    refine (c1).calls ?_
    go_wp2_with fail
    refine c2.calls0 ?_
    intro w1 h1
    have hq := Lib.hid ((HS.out.step h1).alloc (.cells #[.string ⟨#[]⟩, .string ⟨#[]⟩, .string ⟨#[]⟩, .string ⟨#[]⟩, .string ⟨#[]⟩, .slice none 0 0, .string ⟨#[]⟩, .string ⟨#[]⟩, .string ⟨#[]⟩] 46))
    clear HS h1
    go_wp2_with fail
    go_ret
    exact ⟨rfl, hq.out⟩
set_option maxRecDepth 100000 in
set_option maxHeartbeats 4000000 in
theorem blocks_ok (kek b l u m v e : ByteArray) (L : List A2) (P C G : ByteArray) (c1 : Ret 6 #[.int .i64 2, .int .i64 (b.size : Int)] (.bool true))
    (q1 q2 q3 : Bool) (h1 : ((kek.size : Int) == 16) = q1) (h2 : ((kek.size : Int) == 24) = q2) (h3 : ((kek.size : Int) == 32) = q3) (hk : (q1 = true ∧ q2 = false ∧ q3 = false) ∨ (q1 = false ∧ q2 = true ∧ q3 = false) ∨ (q1 = false ∧ q2 = false ∧ q3 = true))
    (c2 : CutR b l u m v e L P C G) (X : Int) (c3 : Ret 23 #[.int .i64 (P.size : Int), .int .i64 (C.size : Int)] (.int .i64 X)) (hX : 0 ≤ X ∧ X ≤ 1000000)
    (T : Int) (c4 : Ret 24 #[.int .i64 (kek.size : Int)] (.int .i64 T)) (hT2 : 1 ≤ T ∧ T ≤ 2) : Mak 7 #[.string kek, .int .i64 2, .string b] (.int .i64 (X + 4 * T)) := by
  intro w
  have HS := Lib.hid (Since.refl w)
  obtain ⟨x1, x2⟩ := hX
  obtain ⟨y1, y2⟩ := hT2
  have k1 : ((kek.size : Int) == 16) = q1 := h1
  have k2 : ((kek.size : Int) == 24) = q2 := h2
  have k3 : ((kek.size : Int) == 32) = q3 := h3
  have n1 : ((kek.size : Int) != 16) = !q1 := by rw [bne, h1]
  have n2 : ((kek.size : Int) != 24) = !q2 := by rw [bne, h2]
  have n3 : ((kek.size : Int) != 32) = !q3 := by rw [bne, h3]
  clear h1 h2 h3
  rcases hk with ⟨rfl, rfl, rfl⟩ | ⟨rfl, rfl, rfl⟩ | ⟨rfl, rfl, rfl⟩
  all_goals simp only [Bool.not_true, Bool.not_false] at n1 n2 n3
  all_goals
    go_enter Tryz.func7, Tryz.ntmps7
    go_wp2_with fail
    refine (c1).calls ?_
    go_wp2_with fail
    refine c2.calls0 ?_
    intro a w1 ha h1
    obtain ⟨A', d', hav, _⟩ := ha.slice
    subst hav
    unfold C9
    have hp := Lib.hid (hb_new w1 KT trivial #[.string l, .string u, .string m, .string v, .string e, .slice A' L.length d', .string P, .string C, .string G] 46)
    replace HS := Lib.hid (HS.out.step h1)
    have HQ := Lib.hid (HS.out.alloc (.cells #[.string l, .string u, .string m, .string v, .string e, .slice A' L.length d', .string P, .string C, .string G] 46))
    obtain ⟨n0, n1, n2, n3, n4, n5, n6, n7, n8⟩ := hb9 hp.out
    clear h1 ha HS n0 n1 n2 n3 n4 n5 n8
    go_wp2_with fail
    refine (c3).calls ?_
    go_wp2_with fail
    refine (c4).calls ?_
    go_wp2_with fail
    go_ret
    exact ⟨rfl, HQ.out⟩
theorem blocks_any (kek b : ByteArray) (f : Int) (hb : b.size ≤ 20000) (hg : gateB (kek.size : Int) f b = true) : Mak 7 #[.string kek, .int .i64 f, .string b] (.int .i64 (costI (kek.size : Int) f b)) := by
  have c1 := rfits_ret f (b.size : Int) _ rfl
  rw [costI, hg, if_pos rfl]
  unfold gateB at hg
  rw [Bool.and_eq_true] at hg
  obtain ⟨hf, hk⟩ := hg
  rw [hf] at c1
  obtain ⟨q1, q2, q3, g1, g2, g3, hq⟩ := keys_of kek hk
  rcases fit_cases hf with ⟨rfl, h1, h2, h3⟩ | ⟨rfl, h1, h2⟩
  · rw [if_pos rfl]
    refine blocks_w kek b c1 q1 q2 q3 g1 g2 g3 hq _ ?_
    unfold wrI
    by_cases h : b.size = 16
    · exact .inl ⟨h, by rw [if_pos (by omega)]⟩
    · rw [if_neg (by omega)]
      exact .inr ⟨h, by omega, by omega, rsteps_ret _ (by omega) (by omega) (by omega)⟩
  · rw [if_neg (by decide)]
    unfold kyI
    by_cases h : cutE b = 0
    · rw [if_pos h]
      have hn := cut_nums b h
      have hp : (b.extract 0 (cutD b)).size = cutD b := by rw [ByteArray.size_extract]; omega
      have hb := blkI_b ((cutD b : Int) + ((selC (cutR b)).size : Int)) (by omega)
      have c3 := rsblk_ret ((cutD b : Nat) : Int) ((selC (cutR b)).size : Int) (by omega) (by omega) (by omega) (by omega) _ rfl (by omega)
      rw [← hp] at c3
      have hX : 0 ≤ blkI (((b.extract 0 (cutD b)).size : Int) + ((selC (cutR b)).size : Int)) + 1 + ((selC (cutR b)).size : Int) / 16 ∧ blkI (((b.extract 0 (cutD b)).size : Int) + ((selC (cutR b)).size : Int)) + 1 + ((selC (cutR b)).size : Int) / 16 ≤ 1000000 := by rw [hp]; omega
      have h9 := blocks_ok kek b _ _ _ _ _ _ _ _ _ c1 q1 q2 q3 g1 g2 g3 hq (rcut_good b h) _ c3 hX _ (rktags _ hk) (tagsI_b _)
      rw [hp] at h9
      exact h9
    · rw [if_neg h]
      exact blocks_bad kek b c1 q1 q2 q3 g1 g2 g3 hq _ (by rw [bne_iff_ne]; exact h) (rcut_bad b (by omega) h)
end RefLimit
end Go.Proofs.YtgfdomdbjiflmaaGreatDoor
