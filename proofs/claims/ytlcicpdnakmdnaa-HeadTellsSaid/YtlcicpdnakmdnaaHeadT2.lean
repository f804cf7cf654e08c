/- The walks of package head: a tag of several bytes that is read: two digits. -/
import Derived.Test.YtlcicpdnakmdnaaHeadT
namespace Go.Proofs.Ytlcicpdnakmdnaa
open Go.RowKit
namespace Head

set_option maxRecDepth 100000 in
set_option maxHeartbeats 8000000 in
theorem rtag_k2 (s : ByteArray) (hm : s.size ≤ 1000000) (c : Nat) (b : Bool) (hp : 2 < s.size) (hc : (s[0].toNat : Int) / 64 = (c : Int)) (hc3 : (c : Int) ≤ 3) (ht : bits .and .u8 (s[0].toNat : Int) 31 = 31) (hb : (bits .and .u8 (s[0].toNat : Int) 32 != 0) = b) (e1 : Nat) (he1 : s[1].toNat = 128 + e1) (hl : s[2].toNat < 128) (T : Nat) (hT : T = 128 * e1 + s[2].toNat) (X : ByteArray) (c1 : Mak 29 #[.agg #[.int .i64 (c : Int), .int .i64 ((T : Nat) : Int), .bool b, .int .i64 ((0 : Nat) : Int)]] (.string X)) (V : Value) (hV : V = if X = s.extract 0 3 then tagV (some (c, T, b, 3)) else tagV none) : Mak 34 #[.string s] V := by
  intro w
  have hne := some_bytes_f s (by omega)
  have hn0 : 0 < s.size := by omega
  have hi0 : (0 : Int) < (s.size : Int) := by omega
  have hi1 : (1 : Int) < (s.size : Int) := by omega
  have hi2 : (2 : Int) < (s.size : Int) := by omega
  have hs1 : ((1 : Int) == (s.size : Int)) = false := by rw [beq_eq_false_iff_ne]; omega
  have hs2 : ((2 : Int) == (s.size : Int)) = false := by rw [beq_eq_false_iff_ne]; omega
  have hl1 := s[1].toNat_lt
  have hand1 := and127_of (s[1].toNat : Int) (e1 : Int) (by omega) (by omega) (by omega)
  have hge1 : 128 ≤ s[1].toNat := by omega
  have hl2 := s[2].toNat_lt
  have hand2 := and127_of (s[2].toNat : Int) (s[2].toNat : Int) (by omega) (by omega) (by omega)
  have hor1 := or_low7 0 e1 (by omega) (by omega) (by omega)
  simp only [Int.zero_mul, Int.zero_add] at hor1
  have hor2 := or_low7 (e1 : Int) s[2].toNat (by omega) (by omega) (by omega)
  rw [show (e1 : Int) * (128 : Int) + (s[2].toNat : Int) = (T : Int) from by omega] at hor2
  have hTb : T ≤ 2097151 := by omega
  have heb1 : e1 ≤ 127 := by omega
  clear he1
  clear hT
  by_cases hq : X = s.extract 0 3
  · rw [if_pos hq] at hV
    have hqb := str_eq_t hq
    subst hV
    clear hq
    go_enter Try.func34, Try.ntmps34
    go_wp2_with fail
    refine wp_scope_some 5 ?_
    go_wp2_with fail
    go_region
    go_wp2_with fail
    go_step3
    go_wp2_with fail
    go_region
    go_wp2_with fail
    go_step3
    refine ⟨_, rfl, ?_⟩
    go_wp2_with fail
    go_region
    go_wp2_with fail
    go_region_with (first | (go_at_call 29; refine c1.calls0 ?_; intro w9 h9; have q0 := h9.cell (p := ⟨w.heap.size + 1, 0, none⟩) (by simp); have r0 := h9.cell (p := ⟨w.heap.size, 0, none⟩) (by simp; try omega); have f0 := h9.frozen (p := ⟨w.heap.size, 0, none⟩) (by simp; try omega); have q1 := h9.cell (p := ⟨w.heap.size + 1, 1, none⟩) (by simp); have r1 := h9.cell (p := ⟨w.heap.size, 1, none⟩) (by simp; try omega); have f1 := h9.frozen (p := ⟨w.heap.size, 1, none⟩) (by simp; try omega); have q2 := h9.cell (p := ⟨w.heap.size + 1, 2, none⟩) (by simp); have r2 := h9.cell (p := ⟨w.heap.size, 2, none⟩) (by simp; try omega); have f2 := h9.frozen (p := ⟨w.heap.size, 2, none⟩) (by simp; try omega); have q3 := h9.cell (p := ⟨w.heap.size + 1, 3, none⟩) (by simp); have r3 := h9.cell (p := ⟨w.heap.size, 3, none⟩) (by simp; try omega); have f3 := h9.frozen (p := ⟨w.heap.size, 3, none⟩) (by simp; try omega); have H9 : Hid (Since w w9) := Lib.hid (Since.step (by first | exact ((Since.refl w).alloc _).alloc _ | exact (((Since.refl w).alloc _).alloc _).drew | exact ((((Since.refl w).alloc _).alloc _).drew).drew | exact (((((Since.refl w).alloc _).alloc _).drew).drew).drew | exact ((((((Since.refl w).alloc _).alloc _).drew).drew).drew).drew | exact (((((((Since.refl w).alloc _).alloc _).drew).drew).drew).drew).drew) h9); clear h9; simp [go_sem] at q0 r0 f0 q1 r1 f1 q2 r2 f2 q3 r3 f3))
    all_goals
      go_wp2_with fail
      (try simp only [Exit.jumps])
      obtain ⟨s0, s1, s2, s3⟩ := set4 r0 r1 r2 r3 (.int .i64 (c : Int)) (.int .i64 ((T : Nat) : Int)) (.bool b) (.int .i64 0)
      exact bodyPost_ret (v := tagV (some (c, T, b, 3))) (by simp [results, Try.results34, go_sem, s0, s1, s2, s3]; try rfl) rfl ⟨rfl, Below.setCell (p := ⟨w.heap.size, 3, none⟩) (Below.setCell (p := ⟨w.heap.size, 2, none⟩) (Below.setCell (p := ⟨w.heap.size, 1, none⟩) (Below.setCell (p := ⟨w.heap.size, 0, none⟩) H9.out (Nat.le_refl _) _) (Nat.le_refl _) _) (Nat.le_refl _) _) (Nat.le_refl _) _⟩
  · rw [if_neg hq] at hV
    have hqb := str_ne_f hq
    subst hV
    clear hq
    go_enter Try.func34, Try.ntmps34
    go_wp2_with fail
    refine wp_scope_some 5 ?_
    go_wp2_with fail
    go_region
    go_wp2_with fail
    go_step3
    go_wp2_with fail
    go_region
    go_wp2_with fail
    go_step3
    refine ⟨_, rfl, ?_⟩
    go_wp2_with fail
    go_region
    go_wp2_with fail
    go_region_with (first | (go_at_call 29; refine c1.calls0 ?_; intro w9 h9; have q0 := h9.cell (p := ⟨w.heap.size + 1, 0, none⟩) (by simp); have r0 := h9.cell (p := ⟨w.heap.size, 0, none⟩) (by simp; try omega); have f0 := h9.frozen (p := ⟨w.heap.size, 0, none⟩) (by simp; try omega); have q1 := h9.cell (p := ⟨w.heap.size + 1, 1, none⟩) (by simp); have r1 := h9.cell (p := ⟨w.heap.size, 1, none⟩) (by simp; try omega); have f1 := h9.frozen (p := ⟨w.heap.size, 1, none⟩) (by simp; try omega); have q2 := h9.cell (p := ⟨w.heap.size + 1, 2, none⟩) (by simp); have r2 := h9.cell (p := ⟨w.heap.size, 2, none⟩) (by simp; try omega); have f2 := h9.frozen (p := ⟨w.heap.size, 2, none⟩) (by simp; try omega); have q3 := h9.cell (p := ⟨w.heap.size + 1, 3, none⟩) (by simp); have r3 := h9.cell (p := ⟨w.heap.size, 3, none⟩) (by simp; try omega); have f3 := h9.frozen (p := ⟨w.heap.size, 3, none⟩) (by simp; try omega); have H9 : Hid (Since w w9) := Lib.hid (Since.step (by first | exact ((Since.refl w).alloc _).alloc _ | exact (((Since.refl w).alloc _).alloc _).drew | exact ((((Since.refl w).alloc _).alloc _).drew).drew | exact (((((Since.refl w).alloc _).alloc _).drew).drew).drew | exact ((((((Since.refl w).alloc _).alloc _).drew).drew).drew).drew | exact (((((((Since.refl w).alloc _).alloc _).drew).drew).drew).drew).drew) h9); clear h9; simp [go_sem] at q0 r0 f0 q1 r1 f1 q2 r2 f2 q3 r3 f3))
    all_goals
      go_wp2_with fail
      go_step3
      go_wp2_with fail
      (try simp only [Exit.jumps])
      obtain ⟨s0, s1, s2, s3⟩ := set4 r0 r1 r2 r3 (.int .i64 0) (.int .i64 0) (.bool false) (.int .i64 0)
      exact bodyPost_ret (v := tagV none) (by simp [results, Try.results34, go_sem, s0, s1, s2, s3]; try rfl) rfl ⟨rfl, by first | exact H9.out | exact Below.setCell (p := ⟨w.heap.size, 3, none⟩) (Below.setCell (p := ⟨w.heap.size, 2, none⟩) (Below.setCell (p := ⟨w.heap.size, 1, none⟩) (Below.setCell (p := ⟨w.heap.size, 0, none⟩) H9.out (Nat.le_refl _) _) (Nat.le_refl _) _) (Nat.le_refl _) _) (Nat.le_refl _) _⟩
end Head
end Go.Proofs.Ytlcicpdnakmdnaa
