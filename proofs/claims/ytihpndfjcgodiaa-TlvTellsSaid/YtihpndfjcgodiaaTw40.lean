/- Joined texts. -/
-- PACK: YtihpndfjcgodiaaRefHeadD YtihpndfjcgodiaaRefHeadF
import Derived.Test.YtihpndfjcgodiaaTw38
import Derived.Test.YtihpndfjcgodiaaTw31
import Derived.Deep.QuietTactic
import Derived.BigQuiet

/- The reference of package head: Decode. -/
namespace Go.Proofs.Ytihpndfjcgodiaa
open Go.RowKit
namespace RefHead
open Head

theorem rtagR_b (l : List UInt8) (c t : Nat) (b : Bool) (k : Nat) (h : rtagR l = some (c, t, b, k)) : c ≤ 3 ∧ t ≤ 2097151 ∧ 1 ≤ k ∧ k ≤ 4 ∧ k ≤ l.length := by
  cases l with
  | nil => cases h
  | cons x l =>
    have hx := x.toNat_lt
    by_cases h31 : x.toNat % 32 < 31
    · simp only [rtagR, h31, if_true] at h
      cases h
      exact ⟨by omega, by omega, by omega, by omega, by simp⟩
    · simp only [rtagR, h31, if_false] at h
      cases hd : digR l with
      | none => rw [hd] at h; cases h
      | some p =>
        obtain ⟨t2, k2⟩ := p
        rw [hd] at h
        simp only [] at h
        obtain ⟨b1, b2, b3, b4⟩ := digR_b l t2 k2 hd
        cases h
        exact ⟨by omega, b1, by omega, by omega, by simp; omega⟩
theorem cells4.alloc {w : World} {B : Nat} {a b c d : Value} (h : cells4 w B a b c d) (hB : B < w.heap.size) (o : Obj) : cells4 (w.alloc o) B a b c d :=
  h.below _ (Below.alloc (Below.refl _ _) (Nat.le_refl _) o) hB
theorem cells4.set3 {w : World} {B : Nat} {a b c d : Value} (h : cells4 w B a b c d) (x : Value) : cells4 (w.setCell ⟨B, 3, none⟩ x) B a b c x := by
  obtain ⟨⟨h0, h1, h2, h3⟩, f0, f1, f2, f3⟩ := h
  refine ⟨⟨?_, ?_, ?_, ?_⟩, ?_, ?_, ?_, ?_⟩
  · rw [World.cell?_setCell_other _ _ _ _ (by simp)]; exact h0
  · rw [World.cell?_setCell_other _ _ _ _ (by simp)]; exact h1
  · rw [World.cell?_setCell_other _ _ _ _ (by simp)]; exact h2
  · exact World.cell?_setCell_same _ _ _ h3
  · simpa [go_sem] using f0
  · simpa [go_sem] using f1
  · simpa [go_sem] using f2
  · simpa [go_sem] using f3

theorem Since.drewN {W0 w : World} (h : Since W0 w) (q : Nat) : Since W0 (w.drewN q) := Since.step h ⟨rfl, rfl, rfl, Nat.le_refl _, fun _ _ => rfl⟩
set_option maxRecDepth 100000 in
set_option maxHeartbeats 4000000 in
theorem rd_none (s : ByteArray) (c1 : Mak 63 #[.string s] (.tuple #[.agg #[.int .i64 0, .int .i64 0, .bool false, .int .i64 0], .int .i64 0])) : Mak 45 #[.string s] (decV (none0, 0, 5)) := by
  intro w
  go_enter Try.func45, Try.ntmps45
  go_wp2_with fail
  refine c1.calls0 ?_
  intro w1 h1
  have HR1 := Lib.hid ((cells4_new w (.int .i64 0) (.int .i64 0) (.bool false) (.int .i64 0) 76).below _ h1 (by simp))
  have H1 : Hid (Since w w1) := Lib.hid (Since.step ((Since.refl w).alloc _) h1)
  have hlt : w.heap.size < w1.heap.size := by have h9 := Below.size h1; simp at h9; omega
  clear h1
  obtain ⟨⟨r0, r1, r2, r3⟩, f0, f1, f2, f3⟩ := HR1.out
  go_wp2_with fail
  obtain ⟨s0, s1, s2, s3⟩ := set4 r0 r1 r2 r3 (.int .i64 0) (.int .i64 0) (.bool false) (.int .i64 0)
  exact bodyPost_ret (v := decV (none0, 0, 5)) (by simp [results, Try.results45, go_sem, s0, s1, s2, s3, hlt]; try rfl) rfl ⟨rfl, (Since4 H1.out (Nat.le_refl _)).alloc _⟩

set_option maxRecDepth 100000 in
set_option maxHeartbeats 4000000 in
theorem rd_tag (s : ByteArray) (_hm : s.size ≤ 1000000) (c t : Nat) (b : Bool) (k : Nat) (hk1 : 1 ≤ k) (hk : k ≤ s.size) (A : ByteArray) (hA : A.size ≤ 7) (hA1 : 1 ≤ A.size) (c1 : Mak 63 #[.string s] (.tuple #[.agg #[.int .i64 (c : Int), .int .i64 (t : Int), .bool b, .int .i64 0], .int .i64 (k : Int)])) (c2 : Mak 64 #[.agg #[.int .i64 (c : Int), .int .i64 (t : Int), .bool b, .int .i64 0]] (.tuple #[.string A, .int .i64 0]))
    (hne : A.extract 0 (A.size - 1) ≠ s.extract 0 k) : Mak 45 #[.string s] (decV (none0, 0, 5)) := by
  intro w
  have hk0 : ((k : Int) == 0) = false := by rw [beq_eq_false_iff_ne]; omega
  have hki : (k : Int) ≤ (s.size : Int) := by omega
  have hq := str_ne_t hne
  clear hne
  obtain ⟨j, hj⟩ : ∃ j, A.size = j + 1 := ⟨A.size - 1, by omega⟩
  rw [hj, Nat.add_sub_cancel] at hq
  have hji : (A.size : Int) - 1 = (j : Int) := by omega
  have hjl : (j : Int) ≤ (A.size : Int) := by omega
  go_enter Try.func45, Try.ntmps45
  go_wp2_with fail
  refine c1.calls0 ?_
  intro w1 h1
  have HR1 := Lib.hid ((cells4_new w (.int .i64 0) (.int .i64 0) (.bool false) (.int .i64 0) 76).below _ h1 (by simp))
  have H1 : Hid (Since w w1) := Lib.hid (Since.step ((Since.refl w).alloc _) h1)
  have hlt : w.heap.size < w1.heap.size := by have h9 := Below.size h1; simp at h9; omega
  clear h1
  obtain ⟨⟨r0, r1, r2, r3⟩, f0, f1, f2, f3⟩ := HR1.out
  go_wp2_with fail
  clear r0 r1 r2 r3 f0 f1 f2 f3
  refine c2.calls0 ?_
  intro w2 h2
  have HQ2 := Lib.hid ((cells4_new w1 (.int .i64 (c : Int)) (.int .i64 (t : Int)) (.bool b) (.int .i64 0) 76).below _ h2 (by simp))
  have HR2 := Lib.hid ((cells4.alloc HR1.out hlt _).below _ h2 (by simp; omega))
  have H2 : Hid (Since w w2) := Lib.hid (Since.step (H1.out.alloc _) h2)
  have hlt2 : w1.heap.size < w2.heap.size := by have h9 := Below.size h2; simp at h9; omega
  clear h2 HR1 H1
  obtain ⟨⟨r0, r1, r2, r3⟩, f0, f1, f2, f3⟩ := HR2.out
  obtain ⟨⟨q0, q1, q2, q3⟩, g0, g1, g2, g3⟩ := HQ2.out
  go_wp2_with fail
  go_quiet (fail)
  go_wp2_with fail
  obtain ⟨s0, s1, s2, s3⟩ := set4 (W := w2.drewN nq) r0 r1 r2 r3 (.int .i64 0) (.int .i64 0) (.bool false) (.int .i64 0)
  exact bodyPost_ret (v := decV (none0, 0, 5)) (by simp [results, Try.results45, go_sem, s0, s1, s2, s3]; try rfl) rfl ⟨rfl, Since4 (Since.drewN H2.out nq) (Nat.le_refl _)⟩
set_option maxRecDepth 100000 in
set_option maxHeartbeats 4000000 in
theorem rd_end (s : ByteArray) (hm : s.size ≤ 1000000) (c t : Nat) (b : Bool) (k : Nat) (hk1 : 1 ≤ k) (_hk : k ≤ s.size) (A : ByteArray) (hA : A.size ≤ 7) (hA1 : 1 ≤ A.size) (c1 : Mak 63 #[.string s] (.tuple #[.agg #[.int .i64 (c : Int), .int .i64 (t : Int), .bool b, .int .i64 0], .int .i64 (k : Int)])) (c2 : Mak 64 #[.agg #[.int .i64 (c : Int), .int .i64 (t : Int), .bool b, .int .i64 0]] (.tuple #[.string A, .int .i64 0]))
    (he : A.extract 0 (A.size - 1) = s.extract 0 k) (hend : k = s.size) : Mak 45 #[.string s] (decV (none0, 0, 5)) := by
  intro w
  have hk0 : ((k : Int) == 0) = false := by rw [beq_eq_false_iff_ne]; omega
  have hki : (k : Int) ≤ (s.size : Int) := by omega
  have hq := str_eq_f he
  clear he
  obtain ⟨j, hj⟩ : ∃ j, A.size = j + 1 := ⟨A.size - 1, by omega⟩
  rw [hj, Nat.add_sub_cancel] at hq
  have hji : (A.size : Int) - 1 = (j : Int) := by omega
  have hjl : (j : Int) ≤ (A.size : Int) := by omega
  have hke : ((k : Int) == (s.size : Int)) = true := by rw [hend]; exact beq_self_eq_true _
  clear hend
  go_enter Try.func45, Try.ntmps45
  go_wp2_with fail
  refine c1.calls0 ?_
  intro w1 h1
  have HR1 := Lib.hid ((cells4_new w (.int .i64 0) (.int .i64 0) (.bool false) (.int .i64 0) 76).below _ h1 (by simp))
  have H1 : Hid (Since w w1) := Lib.hid (Since.step ((Since.refl w).alloc _) h1)
  have hlt : w.heap.size < w1.heap.size := by have h9 := Below.size h1; simp at h9; omega
  clear h1
  obtain ⟨⟨r0, r1, r2, r3⟩, f0, f1, f2, f3⟩ := HR1.out
  go_wp2_with fail
  clear r0 r1 r2 r3 f0 f1 f2 f3
  refine c2.calls0 ?_
  intro w2 h2
  have HQ2 := Lib.hid ((cells4_new w1 (.int .i64 (c : Int)) (.int .i64 (t : Int)) (.bool b) (.int .i64 0) 76).below _ h2 (by simp))
  have HR2 := Lib.hid ((cells4.alloc HR1.out hlt _).below _ h2 (by simp; omega))
  have H2 : Hid (Since w w2) := Lib.hid (Since.step (H1.out.alloc _) h2)
  have hlt2 : w1.heap.size < w2.heap.size := by have h9 := Below.size h2; simp at h9; omega
  clear h2 HR1 H1
  obtain ⟨⟨r0, r1, r2, r3⟩, f0, f1, f2, f3⟩ := HR2.out
  obtain ⟨⟨q0, q1, q2, q3⟩, g0, g1, g2, g3⟩ := HQ2.out
  go_wp2_with fail
  go_quiet (fail)
  go_wp2_with fail
  obtain ⟨s0, s1, s2, s3⟩ := set4 (W := w2.drewN nq) r0 r1 r2 r3 (.int .i64 0) (.int .i64 0) (.bool false) (.int .i64 0)
  exact bodyPost_ret (v := decV (none0, 0, 5)) (by simp [results, Try.results45, go_sem, s0, s1, s2, s3]; try rfl) rfl ⟨rfl, Since4 (Since.drewN H2.out nq) (Nat.le_refl _)⟩

set_option maxRecDepth 100000 in
set_option maxHeartbeats 4000000 in
theorem rd_128 (s : ByteArray) (_hm : s.size ≤ 1000000) (c t : Nat) (b : Bool) (k : Nat) (hk1 : 1 ≤ k) (_hk : k ≤ s.size) (A : ByteArray) (hA : A.size ≤ 7) (hA1 : 1 ≤ A.size) (c1 : Mak 63 #[.string s] (.tuple #[.agg #[.int .i64 (c : Int), .int .i64 (t : Int), .bool b, .int .i64 0], .int .i64 (k : Int)])) (c2 : Mak 64 #[.agg #[.int .i64 (c : Int), .int .i64 (t : Int), .bool b, .int .i64 0]] (.tuple #[.string A, .int .i64 0]))
    (he : A.extract 0 (A.size - 1) = s.extract 0 k) (hlt0 : k < s.size) (h128 : s[k].toNat = 128) : Mak 45 #[.string s] (decV (none0, 0, 5)) := by
  intro w
  have hk0 : ((k : Int) == 0) = false := by rw [beq_eq_false_iff_ne]; omega
  have hki : (k : Int) ≤ (s.size : Int) := by omega
  have hq := str_eq_f he
  clear he
  obtain ⟨j, hj⟩ : ∃ j, A.size = j + 1 := ⟨A.size - 1, by omega⟩
  rw [hj, Nat.add_sub_cancel] at hq
  have hji : (A.size : Int) - 1 = (j : Int) := by omega
  have hjl : (j : Int) ≤ (A.size : Int) := by omega
  have hke : ((k : Int) == (s.size : Int)) = false := by rw [beq_eq_false_iff_ne]; omega
  have hkl : (k : Int) < (s.size : Int) := by omega
  have hv : (s[k].toNat : Int) = 128 := by omega
  go_enter Try.func45, Try.ntmps45
  go_wp2_with fail
  refine c1.calls0 ?_
  intro w1 h1
  have HR1 := Lib.hid ((cells4_new w (.int .i64 0) (.int .i64 0) (.bool false) (.int .i64 0) 76).below _ h1 (by simp))
  have H1 : Hid (Since w w1) := Lib.hid (Since.step ((Since.refl w).alloc _) h1)
  have hlt : w.heap.size < w1.heap.size := by have h9 := Below.size h1; simp at h9; omega
  clear h1
  obtain ⟨⟨r0, r1, r2, r3⟩, f0, f1, f2, f3⟩ := HR1.out
  go_wp2_with fail
  clear r0 r1 r2 r3 f0 f1 f2 f3
  refine c2.calls0 ?_
  intro w2 h2
  have HQ2 := Lib.hid ((cells4_new w1 (.int .i64 (c : Int)) (.int .i64 (t : Int)) (.bool b) (.int .i64 0) 76).below _ h2 (by simp))
  have HR2 := Lib.hid ((cells4.alloc HR1.out hlt _).below _ h2 (by simp; omega))
  have H2 : Hid (Since w w2) := Lib.hid (Since.step (H1.out.alloc _) h2)
  have hlt2 : w1.heap.size < w2.heap.size := by have h9 := Below.size h2; simp at h9; omega
  clear h2 HR1 H1
  obtain ⟨⟨r0, r1, r2, r3⟩, f0, f1, f2, f3⟩ := HR2.out
  obtain ⟨⟨q0, q1, q2, q3⟩, g0, g1, g2, g3⟩ := HQ2.out
  go_wp2_with fail
  go_quiet (fail)
  go_wp2_with fail
  obtain ⟨s0, s1, s2, s3⟩ := set4 (W := w2.drewN nq) r0 r1 r2 r3 (.int .i64 0) (.int .i64 0) (.bool false) (.int .i64 0)
  exact bodyPost_ret (v := decV (none0, 0, 5)) (by simp [results, Try.results45, go_sem, s0, s1, s2, s3]; try rfl) rfl ⟨rfl, Since4 (Since.drewN H2.out nq) (Nat.le_refl _)⟩
set_option maxRecDepth 100000 in
set_option maxHeartbeats 4000000 in
theorem rd_size (s : ByteArray) (_hm : s.size ≤ 1000000) (c t : Nat) (b : Bool) (k : Nat) (hk1 : 1 ≤ k) (_hk : k ≤ s.size) (A : ByteArray) (hA : A.size ≤ 7) (hA1 : 1 ≤ A.size) (c1 : Mak 63 #[.string s] (.tuple #[.agg #[.int .i64 (c : Int), .int .i64 (t : Int), .bool b, .int .i64 0], .int .i64 (k : Int)])) (c2 : Mak 64 #[.agg #[.int .i64 (c : Int), .int .i64 (t : Int), .bool b, .int .i64 0]] (.tuple #[.string A, .int .i64 0]))
    (he : A.extract 0 (A.size - 1) = s.extract 0 k) (hlt0 : k < s.size) (h130 : 130 < s[k].toNat) : Mak 45 #[.string s] (decV (none0, 0, 4)) := by
  intro w
  have hk0 : ((k : Int) == 0) = false := by rw [beq_eq_false_iff_ne]; omega
  have hki : (k : Int) ≤ (s.size : Int) := by omega
  have hq := str_eq_f he
  clear he
  obtain ⟨j, hj⟩ : ∃ j, A.size = j + 1 := ⟨A.size - 1, by omega⟩
  rw [hj, Nat.add_sub_cancel] at hq
  have hji : (A.size : Int) - 1 = (j : Int) := by omega
  have hjl : (j : Int) ≤ (A.size : Int) := by omega
  have hke : ((k : Int) == (s.size : Int)) = false := by rw [beq_eq_false_iff_ne]; omega
  have hkl : (k : Int) < (s.size : Int) := by omega
  have hv : ((s[k].toNat : Int) == 128) = false := by rw [beq_eq_false_iff_ne]; omega
  have hv2 : 130 < (s[k].toNat : Int) := by omega
  go_enter Try.func45, Try.ntmps45
  go_wp2_with fail
  refine c1.calls0 ?_
  intro w1 h1
  have HR1 := Lib.hid ((cells4_new w (.int .i64 0) (.int .i64 0) (.bool false) (.int .i64 0) 76).below _ h1 (by simp))
  have H1 : Hid (Since w w1) := Lib.hid (Since.step ((Since.refl w).alloc _) h1)
  have hlt : w.heap.size < w1.heap.size := by have h9 := Below.size h1; simp at h9; omega
  clear h1
  obtain ⟨⟨r0, r1, r2, r3⟩, f0, f1, f2, f3⟩ := HR1.out
  go_wp2_with fail
  clear r0 r1 r2 r3 f0 f1 f2 f3
  refine c2.calls0 ?_
  intro w2 h2
  have HQ2 := Lib.hid ((cells4_new w1 (.int .i64 (c : Int)) (.int .i64 (t : Int)) (.bool b) (.int .i64 0) 76).below _ h2 (by simp))
  have HR2 := Lib.hid ((cells4.alloc HR1.out hlt _).below _ h2 (by simp; omega))
  have H2 : Hid (Since w w2) := Lib.hid (Since.step (H1.out.alloc _) h2)
  have hlt2 : w1.heap.size < w2.heap.size := by have h9 := Below.size h2; simp at h9; omega
  clear h2 HR1 H1
  obtain ⟨⟨r0, r1, r2, r3⟩, f0, f1, f2, f3⟩ := HR2.out
  obtain ⟨⟨q0, q1, q2, q3⟩, g0, g1, g2, g3⟩ := HQ2.out
  go_wp2_with fail
  go_quiet (fail)
  go_wp2_with fail
  obtain ⟨s0, s1, s2, s3⟩ := set4 (W := w2.drewN nq) r0 r1 r2 r3 (.int .i64 0) (.int .i64 0) (.bool false) (.int .i64 0)
  exact bodyPost_ret (v := decV (none0, 0, 4)) (by simp [results, Try.results45, go_sem, s0, s1, s2, s3]; try rfl) rfl ⟨rfl, Since4 (Since.drewN H2.out nq) (Nat.le_refl _)⟩

end RefHead
end Go.Proofs.Ytihpndfjcgodiaa

/- The reference of package head: Decode at its end, and whole. -/
namespace Go.Proofs.Ytihpndfjcgodiaa
open Go.RowKit
namespace RefHead
open Head

set_option maxRecDepth 100000 in
set_option maxHeartbeats 4000000 in
theorem rd_few
    (s : ByteArray) (hm : s.size ≤ 1000000) (c t : Nat) (b : Bool) (k : Nat) (hk1 : 1 ≤ k) (_hk : k ≤ s.size) (A : ByteArray) (hA : A.size ≤ 7) (hA1 : 1 ≤ A.size) (c1 : Mak 63 #[.string s] (.tuple #[.agg #[.int .i64 (c : Int), .int .i64 (t : Int), .bool b, .int .i64 0], .int .i64 (k : Int)])) (c2 : Mak 64 #[.agg #[.int .i64 (c : Int), .int .i64 (t : Int), .bool b, .int .i64 0]] (.tuple #[.string A, .int .i64 0]))
      (he : A.extract 0 (A.size - 1) = s.extract 0 k) (hlt0 : k < s.size)
    (m : Nat) (hm1 : 1 ≤ m) (hm2 : m ≤ 2) (hv : s[k].toNat = 128 + m) (hfew : s.size < k + 1 + m) : Mak 45 #[.string s] (decV (none0, 0, 5)) := by
  intro w
  have hk0 : ((k : Int) == 0) = false := by rw [beq_eq_false_iff_ne]; omega
  have hki : (k : Int) ≤ (s.size : Int) := by omega
  have hq := str_eq_f he
  clear he
  obtain ⟨j, hj⟩ : ∃ j, A.size = j + 1 := ⟨A.size - 1, by omega⟩
  rw [hj, Nat.add_sub_cancel] at hq
  have hji : (A.size : Int) - 1 = (j : Int) := by omega
  have hjl : (j : Int) ≤ (A.size : Int) := by omega
  have hke : ((k : Int) == (s.size : Int)) = false := by rw [beq_eq_false_iff_ne]; omega
  have hkl : (k : Int) < (s.size : Int) := by omega
  have hv2 : ((s[k].toNat : Int) == 128) = false := by rw [beq_eq_false_iff_ne]; omega
  have hv3 : (s[k].toNat : Int) ≤ 130 := by omega
  have hv4 : 128 < (s[k].toNat : Int) := by omega
  have hmi : (s[k].toNat : Int) - 128 = (m : Int) := by omega
  have hfi : (s.size : Int) < (k : Int) + 1 + (m : Int) := by omega
  clear hv hfew
  go_enter Try.func45, Try.ntmps45
  go_wp2_with fail
  refine c1.calls0 ?_
  intro w1 h1
  have HR1 := Lib.hid ((cells4_new w (.int .i64 0) (.int .i64 0) (.bool false) (.int .i64 0) 76).below _ h1 (by simp))
  have H1 : Hid (Since w w1) := Lib.hid (Since.step ((Since.refl w).alloc _) h1)
  have hlt : w.heap.size < w1.heap.size := by have h9 := Below.size h1; simp at h9; omega
  clear h1
  obtain ⟨⟨r0, r1, r2, r3⟩, f0, f1, f2, f3⟩ := HR1.out
  go_wp2_with fail
  clear r0 r1 r2 r3 f0 f1 f2 f3
  refine c2.calls0 ?_
  intro w2 h2
  have HQ2 := Lib.hid ((cells4_new w1 (.int .i64 (c : Int)) (.int .i64 (t : Int)) (.bool b) (.int .i64 0) 76).below _ h2 (by simp))
  have HR2 := Lib.hid ((cells4.alloc HR1.out hlt _).below _ h2 (by simp; omega))
  have H2 : Hid (Since w w2) := Lib.hid (Since.step (H1.out.alloc _) h2)
  have hlt2 : w1.heap.size < w2.heap.size := by have h9 := Below.size h2; simp at h9; omega
  clear h2 HR1 H1
  obtain ⟨⟨r0, r1, r2, r3⟩, f0, f1, f2, f3⟩ := HR2.out
  obtain ⟨⟨q0, q1, q2, q3⟩, g0, g1, g2, g3⟩ := HQ2.out
  go_wp2_with fail
  go_quiet (fail)
  go_wp2_with fail
  obtain ⟨s0, s1, s2, s3⟩ := set4 (W := w2.drewN nq) r0 r1 r2 r3 (.int .i64 0) (.int .i64 0) (.bool false) (.int .i64 0)
  exact bodyPost_ret (v := decV (none0, 0, 5)) (by simp [results, Try.results45, go_sem, s0, s1, s2, s3]; try rfl) rfl ⟨rfl, Since4 (Since.drewN H2.out nq) (Nat.le_refl _)⟩

set_option maxRecDepth 100000 in
set_option maxHeartbeats 4000000 in
theorem rd_one_ne
    (s : ByteArray) (hm : s.size ≤ 1000000) (c t : Nat) (b : Bool) (k : Nat) (hk1 : 1 ≤ k) (_hk : k ≤ s.size) (A : ByteArray) (hA : A.size ≤ 7) (hA1 : 1 ≤ A.size) (c1 : Mak 63 #[.string s] (.tuple #[.agg #[.int .i64 (c : Int), .int .i64 (t : Int), .bool b, .int .i64 0], .int .i64 (k : Int)])) (c2 : Mak 64 #[.agg #[.int .i64 (c : Int), .int .i64 (t : Int), .bool b, .int .i64 0]] (.tuple #[.string A, .int .i64 0]))
      (he : A.extract 0 (A.size - 1) = s.extract 0 k) (hlt0 : k < s.size)
    (hv : s[k].toNat < 128) (B : ByteArray) (_hB : B.size ≤ 7) (c3 : Mak 64 #[.agg #[.int .i64 (c : Int), .int .i64 (t : Int), .bool b, .int .i64 (s[k].toNat : Int)]] (.tuple #[.string B, .int .i64 0]))
    (hne : B ≠ s.extract 0 (k + 1)) : Mak 45 #[.string s] (decV (none0, 0, 5)) := by
  intro w
  have hk0 : ((k : Int) == 0) = false := by rw [beq_eq_false_iff_ne]; omega
  have hki : (k : Int) ≤ (s.size : Int) := by omega
  have hq := str_eq_f he
  clear he
  obtain ⟨j, hj⟩ : ∃ j, A.size = j + 1 := ⟨A.size - 1, by omega⟩
  rw [hj, Nat.add_sub_cancel] at hq
  have hji : (A.size : Int) - 1 = (j : Int) := by omega
  have hjl : (j : Int) ≤ (A.size : Int) := by omega
  have hke : ((k : Int) == (s.size : Int)) = false := by rw [beq_eq_false_iff_ne]; omega
  have hkl : (k : Int) < (s.size : Int) := by omega
  have hv2 : ((s[k].toNat : Int) == 128) = false := by rw [beq_eq_false_iff_ne]; omega
  have hv3 : (s[k].toNat : Int) ≤ 130 := by omega
  have hv4 : ¬ 128 < (s[k].toNat : Int) := by omega
  have hfi : ¬ (s.size : Int) < (k : Int) + 1 := by omega
  have hsi : (k : Int) + 1 ≤ (s.size : Int) := by omega
  clear hv
  have hqe := str_ne_t hne
  clear hne
  go_enter Try.func45, Try.ntmps45
  go_wp2_with fail
  refine c1.calls0 ?_
  intro w1 h1
  have HR1 := Lib.hid ((cells4_new w (.int .i64 0) (.int .i64 0) (.bool false) (.int .i64 0) 76).below _ h1 (by simp))
  have H1 : Hid (Since w w1) := Lib.hid (Since.step ((Since.refl w).alloc _) h1)
  have hlt : w.heap.size < w1.heap.size := by have h9 := Below.size h1; simp at h9; omega
  clear h1
  obtain ⟨⟨r0, r1, r2, r3⟩, f0, f1, f2, f3⟩ := HR1.out
  go_wp2_with fail
  clear r0 r1 r2 r3 f0 f1 f2 f3
  refine c2.calls0 ?_
  intro w2 h2
  have HQ2 := Lib.hid ((cells4_new w1 (.int .i64 (c : Int)) (.int .i64 (t : Int)) (.bool b) (.int .i64 0) 76).below _ h2 (by simp))
  have HR2 := Lib.hid ((cells4.alloc HR1.out hlt _).below _ h2 (by simp; omega))
  have H2 : Hid (Since w w2) := Lib.hid (Since.step (H1.out.alloc _) h2)
  have hlt2 : w1.heap.size < w2.heap.size := by have h9 := Below.size h2; simp at h9; omega
  clear h2 HR1 H1
  obtain ⟨⟨r0, r1, r2, r3⟩, f0, f1, f2, f3⟩ := HR2.out
  obtain ⟨⟨q0, q1, q2, q3⟩, g0, g1, g2, g3⟩ := HQ2.out
  go_wp2_with fail
  go_quiet (fail)
  go_wp2_with fail
  have HQ3 : Hid (cells4 ((w2.drewN nq).setCell ⟨w1.heap.size, 3, none⟩ (.int .i64 (s[k].toNat : Int))) w1.heap.size (.int .i64 (c : Int)) (.int .i64 (t : Int)) (.bool b) (.int .i64 (s[k].toNat : Int))) := Lib.hid (cells4.set3 (w := w2.drewN nq) HQ2.out _)
  have HR3 : Hid (cells4 ((w2.drewN nq).setCell ⟨w1.heap.size, 3, none⟩ (.int .i64 (s[k].toNat : Int))) w.heap.size (.int .i64 0) (.int .i64 0) (.bool false) (.int .i64 0)) := Lib.hid (cells4.other (w := w2.drewN nq) HR2.out (by omega) 3 _)
  have H3 : Hid (Since w ((w2.drewN nq).setCell ⟨w1.heap.size, 3, none⟩ (.int .i64 (s[k].toNat : Int)))) := Lib.hid (Below.setCell (p := ⟨w1.heap.size, 3, none⟩) (Since.drewN H2.out nq) (Nat.le_of_lt hlt) _)
  have hz3 : ((w2.drewN nq).setCell ⟨w1.heap.size, 3, none⟩ (.int .i64 (s[k].toNat : Int))).heap.size = w2.heap.size := by simp
  clear r0 r1 r2 r3 f0 f1 f2 f3 q0 q1 q2 q3 g0 g1 g2 g3 HQ2 HR2 H2
  refine (c3).calls0 ?_
  intro w3 h3
  have HQ4 := Lib.hid (HQ3.out.below _ h3 (by rw [hz3]; omega))
  have HR4 := Lib.hid (HR3.out.below _ h3 (by rw [hz3]; omega))
  have H4 : Hid (Since w w3) := Lib.hid (Since.step H3.out h3)
  have hlt4 : w1.heap.size < w3.heap.size := by have h9 := Below.size h3; rw [hz3] at h9; omega
  clear h3 HQ3 HR3 H3
  obtain ⟨⟨r0, r1, r2, r3⟩, f0, f1, f2, f3⟩ := HR4.out
  obtain ⟨⟨q0, q1, q2, q3⟩, g0, g1, g2, g3⟩ := HQ4.out
  go_wp2_with fail
  obtain ⟨s0, s1, s2, s3⟩ := set4 r0 r1 r2 r3 (.int .i64 0) (.int .i64 0) (.bool false) (.int .i64 0)
  exact bodyPost_ret (v := decV (none0, 0, 5)) (by simp [results, Try.results45, go_sem, s0, s1, s2, s3]; try rfl) rfl ⟨rfl, Since4 H4.out (Nat.le_refl _)⟩
set_option maxRecDepth 100000 in
set_option maxHeartbeats 4000000 in
theorem rd_one_eq
    (s : ByteArray) (hm : s.size ≤ 1000000) (c t : Nat) (b : Bool) (k : Nat) (hk1 : 1 ≤ k) (_hk : k ≤ s.size) (A : ByteArray) (hA : A.size ≤ 7) (hA1 : 1 ≤ A.size) (c1 : Mak 63 #[.string s] (.tuple #[.agg #[.int .i64 (c : Int), .int .i64 (t : Int), .bool b, .int .i64 0], .int .i64 (k : Int)])) (c2 : Mak 64 #[.agg #[.int .i64 (c : Int), .int .i64 (t : Int), .bool b, .int .i64 0]] (.tuple #[.string A, .int .i64 0]))
      (he : A.extract 0 (A.size - 1) = s.extract 0 k) (hlt0 : k < s.size)
    (hv : s[k].toNat < 128) (B : ByteArray) (_hB : B.size ≤ 7) (c3 : Mak 64 #[.agg #[.int .i64 (c : Int), .int .i64 (t : Int), .bool b, .int .i64 (s[k].toNat : Int)]] (.tuple #[.string B, .int .i64 0]))
    (hne : B = s.extract 0 (k + 1)) : Mak 45 #[.string s] (decV (⟨c, t, b, s[k].toNat⟩, B.size, 0)) := by
  intro w
  have hk0 : ((k : Int) == 0) = false := by rw [beq_eq_false_iff_ne]; omega
  have hki : (k : Int) ≤ (s.size : Int) := by omega
  have hq := str_eq_f he
  clear he
  obtain ⟨j, hj⟩ : ∃ j, A.size = j + 1 := ⟨A.size - 1, by omega⟩
  rw [hj, Nat.add_sub_cancel] at hq
  have hji : (A.size : Int) - 1 = (j : Int) := by omega
  have hjl : (j : Int) ≤ (A.size : Int) := by omega
  have hke : ((k : Int) == (s.size : Int)) = false := by rw [beq_eq_false_iff_ne]; omega
  have hkl : (k : Int) < (s.size : Int) := by omega
  have hv2 : ((s[k].toNat : Int) == 128) = false := by rw [beq_eq_false_iff_ne]; omega
  have hv3 : (s[k].toNat : Int) ≤ 130 := by omega
  have hv4 : ¬ 128 < (s[k].toNat : Int) := by omega
  have hfi : ¬ (s.size : Int) < (k : Int) + 1 := by omega
  have hsi : (k : Int) + 1 ≤ (s.size : Int) := by omega
  clear hv
  have hqe := str_eq_f hne
  clear hne
  go_enter Try.func45, Try.ntmps45
  go_wp2_with fail
  refine c1.calls0 ?_
  intro w1 h1
  have HR1 := Lib.hid ((cells4_new w (.int .i64 0) (.int .i64 0) (.bool false) (.int .i64 0) 76).below _ h1 (by simp))
  have H1 : Hid (Since w w1) := Lib.hid (Since.step ((Since.refl w).alloc _) h1)
  have hlt : w.heap.size < w1.heap.size := by have h9 := Below.size h1; simp at h9; omega
  clear h1
  obtain ⟨⟨r0, r1, r2, r3⟩, f0, f1, f2, f3⟩ := HR1.out
  go_wp2_with fail
  clear r0 r1 r2 r3 f0 f1 f2 f3
  refine c2.calls0 ?_
  intro w2 h2
  have HQ2 := Lib.hid ((cells4_new w1 (.int .i64 (c : Int)) (.int .i64 (t : Int)) (.bool b) (.int .i64 0) 76).below _ h2 (by simp))
  have HR2 := Lib.hid ((cells4.alloc HR1.out hlt _).below _ h2 (by simp; omega))
  have H2 : Hid (Since w w2) := Lib.hid (Since.step (H1.out.alloc _) h2)
  have hlt2 : w1.heap.size < w2.heap.size := by have h9 := Below.size h2; simp at h9; omega
  clear h2 HR1 H1
  obtain ⟨⟨r0, r1, r2, r3⟩, f0, f1, f2, f3⟩ := HR2.out
  obtain ⟨⟨q0, q1, q2, q3⟩, g0, g1, g2, g3⟩ := HQ2.out
  go_wp2_with fail
  go_quiet (fail)
  go_wp2_with fail
  have HQ3 : Hid (cells4 ((w2.drewN nq).setCell ⟨w1.heap.size, 3, none⟩ (.int .i64 (s[k].toNat : Int))) w1.heap.size (.int .i64 (c : Int)) (.int .i64 (t : Int)) (.bool b) (.int .i64 (s[k].toNat : Int))) := Lib.hid (cells4.set3 (w := w2.drewN nq) HQ2.out _)
  have HR3 : Hid (cells4 ((w2.drewN nq).setCell ⟨w1.heap.size, 3, none⟩ (.int .i64 (s[k].toNat : Int))) w.heap.size (.int .i64 0) (.int .i64 0) (.bool false) (.int .i64 0)) := Lib.hid (cells4.other (w := w2.drewN nq) HR2.out (by omega) 3 _)
  have H3 : Hid (Since w ((w2.drewN nq).setCell ⟨w1.heap.size, 3, none⟩ (.int .i64 (s[k].toNat : Int)))) := Lib.hid (Below.setCell (p := ⟨w1.heap.size, 3, none⟩) (Since.drewN H2.out nq) (Nat.le_of_lt hlt) _)
  have hz3 : ((w2.drewN nq).setCell ⟨w1.heap.size, 3, none⟩ (.int .i64 (s[k].toNat : Int))).heap.size = w2.heap.size := by simp
  clear r0 r1 r2 r3 f0 f1 f2 f3 q0 q1 q2 q3 g0 g1 g2 g3 HQ2 HR2 H2
  refine (c3).calls0 ?_
  intro w3 h3
  have HQ4 := Lib.hid (HQ3.out.below _ h3 (by rw [hz3]; omega))
  have HR4 := Lib.hid (HR3.out.below _ h3 (by rw [hz3]; omega))
  have H4 : Hid (Since w w3) := Lib.hid (Since.step H3.out h3)
  have hlt4 : w1.heap.size < w3.heap.size := by have h9 := Below.size h3; rw [hz3] at h9; omega
  clear h3 HQ3 HR3 H3
  obtain ⟨⟨r0, r1, r2, r3⟩, f0, f1, f2, f3⟩ := HR4.out
  obtain ⟨⟨q0, q1, q2, q3⟩, g0, g1, g2, g3⟩ := HQ4.out
  go_wp2_with fail
  obtain ⟨s0, s1, s2, s3⟩ := set4 r0 r1 r2 r3 (.int .i64 (c : Int)) (.int .i64 (t : Int)) (.bool b) (.int .i64 (s[k].toNat : Int))
  exact bodyPost_ret (v := decV (⟨c, t, b, s[k].toNat⟩, B.size, 0)) (by simp [results, Try.results45, go_sem, s0, s1, s2, s3]; try rfl) rfl ⟨rfl, Since4 H4.out (Nat.le_refl _)⟩
set_option maxRecDepth 100000 in
set_option maxHeartbeats 4000000 in
theorem rd_more_ne
    (s : ByteArray) (hm : s.size ≤ 1000000) (c t : Nat) (b : Bool) (k : Nat) (hk1 : 1 ≤ k) (_hk : k ≤ s.size) (A : ByteArray) (hA : A.size ≤ 7) (hA1 : 1 ≤ A.size) (c1 : Mak 63 #[.string s] (.tuple #[.agg #[.int .i64 (c : Int), .int .i64 (t : Int), .bool b, .int .i64 0], .int .i64 (k : Int)])) (c2 : Mak 64 #[.agg #[.int .i64 (c : Int), .int .i64 (t : Int), .bool b, .int .i64 0]] (.tuple #[.string A, .int .i64 0]))
      (he : A.extract 0 (A.size - 1) = s.extract 0 k) (hlt0 : k < s.size)
    (m : Nat) (hm1 : 1 ≤ m) (hm2 : m ≤ 2) (hv : s[k].toNat = 128 + m) (hfew : k + 1 + m ≤ s.size) (L : Nat) (hL : L ≤ 65535) (cg : Ret 65 #[.string (s.extract (k + 1) (k + 1 + m))] (.tuple #[.int .u64 (L : Int), .bool true])) (B : ByteArray) (_hB : B.size ≤ 7) (c3 : Mak 64 #[.agg #[.int .i64 (c : Int), .int .i64 (t : Int), .bool b, .int .i64 (L : Int)]] (.tuple #[.string B, .int .i64 0]))
    (hne : B ≠ s.extract 0 (k + 1 + m)) : Mak 45 #[.string s] (decV (none0, 0, 5)) := by
  intro w
  have hk0 : ((k : Int) == 0) = false := by rw [beq_eq_false_iff_ne]; omega
  have hki : (k : Int) ≤ (s.size : Int) := by omega
  have hq := str_eq_f he
  clear he
  obtain ⟨j, hj⟩ : ∃ j, A.size = j + 1 := ⟨A.size - 1, by omega⟩
  rw [hj, Nat.add_sub_cancel] at hq
  have hji : (A.size : Int) - 1 = (j : Int) := by omega
  have hjl : (j : Int) ≤ (A.size : Int) := by omega
  have hke : ((k : Int) == (s.size : Int)) = false := by rw [beq_eq_false_iff_ne]; omega
  have hkl : (k : Int) < (s.size : Int) := by omega
  have hv2 : ((s[k].toNat : Int) == 128) = false := by rw [beq_eq_false_iff_ne]; omega
  have hv3 : (s[k].toNat : Int) ≤ 130 := by omega
  have hv4 : 128 < (s[k].toNat : Int) := by omega
  have hmi : (s[k].toNat : Int) - 128 = (m : Int) := by omega
  have hfi : ¬ (s.size : Int) < (k : Int) + 1 + (m : Int) := by omega
  have hsi : (k : Int) + 1 + (m : Int) ≤ (s.size : Int) := by omega
  have hmp : 0 < (m : Int) := by omega
  clear hv hfew
  have hqe := str_ne_t hne
  clear hne
  go_enter Try.func45, Try.ntmps45
  go_wp2_with fail
  refine c1.calls0 ?_
  intro w1 h1
  have HR1 := Lib.hid ((cells4_new w (.int .i64 0) (.int .i64 0) (.bool false) (.int .i64 0) 76).below _ h1 (by simp))
  have H1 : Hid (Since w w1) := Lib.hid (Since.step ((Since.refl w).alloc _) h1)
  have hlt : w.heap.size < w1.heap.size := by have h9 := Below.size h1; simp at h9; omega
  clear h1
  obtain ⟨⟨r0, r1, r2, r3⟩, f0, f1, f2, f3⟩ := HR1.out
  go_wp2_with fail
  clear r0 r1 r2 r3 f0 f1 f2 f3
  refine c2.calls0 ?_
  intro w2 h2
  have HQ2 := Lib.hid ((cells4_new w1 (.int .i64 (c : Int)) (.int .i64 (t : Int)) (.bool b) (.int .i64 0) 76).below _ h2 (by simp))
  have HR2 := Lib.hid ((cells4.alloc HR1.out hlt _).below _ h2 (by simp; omega))
  have H2 : Hid (Since w w2) := Lib.hid (Since.step (H1.out.alloc _) h2)
  have hlt2 : w1.heap.size < w2.heap.size := by have h9 := Below.size h2; simp at h9; omega
  clear h2 HR1 H1
  obtain ⟨⟨r0, r1, r2, r3⟩, f0, f1, f2, f3⟩ := HR2.out
  obtain ⟨⟨q0, q1, q2, q3⟩, g0, g1, g2, g3⟩ := HQ2.out
  go_wp2_with fail
  go_quiet (fail)
  go_wp2_with fail
  refine cg.calls ?_
  go_wp2_with fail
  have HQ3 : Hid (cells4 (((w2.drewN nq).setCell ⟨w1.heap.size, 3, none⟩ (.int .i64 (s[k].toNat : Int))).setCell ⟨w1.heap.size, 3, none⟩ (.int .i64 (L : Int))) w1.heap.size (.int .i64 (c : Int)) (.int .i64 (t : Int)) (.bool b) (.int .i64 (L : Int))) := Lib.hid (cells4.set3 (cells4.set3 (w := w2.drewN nq) HQ2.out _) _)
  have HR3 : Hid (cells4 (((w2.drewN nq).setCell ⟨w1.heap.size, 3, none⟩ (.int .i64 (s[k].toNat : Int))).setCell ⟨w1.heap.size, 3, none⟩ (.int .i64 (L : Int))) w.heap.size (.int .i64 0) (.int .i64 0) (.bool false) (.int .i64 0)) := Lib.hid (cells4.other (cells4.other (w := w2.drewN nq) HR2.out (by omega) 3 _) (by omega) 3 _)
  have H3 : Hid (Since w (((w2.drewN nq).setCell ⟨w1.heap.size, 3, none⟩ (.int .i64 (s[k].toNat : Int))).setCell ⟨w1.heap.size, 3, none⟩ (.int .i64 (L : Int)))) := Lib.hid (Below.setCell (p := ⟨w1.heap.size, 3, none⟩) (Below.setCell (p := ⟨w1.heap.size, 3, none⟩) (Since.drewN H2.out nq) (Nat.le_of_lt hlt) _) (Nat.le_of_lt hlt) _)
  have hz3 : (((w2.drewN nq).setCell ⟨w1.heap.size, 3, none⟩ (.int .i64 (s[k].toNat : Int))).setCell ⟨w1.heap.size, 3, none⟩ (.int .i64 (L : Int))).heap.size = w2.heap.size := by simp
  clear r0 r1 r2 r3 f0 f1 f2 f3 q0 q1 q2 q3 g0 g1 g2 g3 HQ2 HR2 H2
  refine (c3).calls0 ?_
  intro w3 h3
  have HQ4 := Lib.hid (HQ3.out.below _ h3 (by rw [hz3]; omega))
  have HR4 := Lib.hid (HR3.out.below _ h3 (by rw [hz3]; omega))
  have H4 : Hid (Since w w3) := Lib.hid (Since.step H3.out h3)
  have hlt4 : w1.heap.size < w3.heap.size := by have h9 := Below.size h3; rw [hz3] at h9; omega
  clear h3 HQ3 HR3 H3
  obtain ⟨⟨r0, r1, r2, r3⟩, f0, f1, f2, f3⟩ := HR4.out
  obtain ⟨⟨q0, q1, q2, q3⟩, g0, g1, g2, g3⟩ := HQ4.out
  go_wp2_with fail
  obtain ⟨s0, s1, s2, s3⟩ := set4 r0 r1 r2 r3 (.int .i64 0) (.int .i64 0) (.bool false) (.int .i64 0)
  exact bodyPost_ret (v := decV (none0, 0, 5)) (by simp [results, Try.results45, go_sem, s0, s1, s2, s3]; try rfl) rfl ⟨rfl, Since4 H4.out (Nat.le_refl _)⟩
set_option maxRecDepth 100000 in
set_option maxHeartbeats 4000000 in
theorem rd_more_eq
    (s : ByteArray) (hm : s.size ≤ 1000000) (c t : Nat) (b : Bool) (k : Nat) (hk1 : 1 ≤ k) (_hk : k ≤ s.size) (A : ByteArray) (hA : A.size ≤ 7) (hA1 : 1 ≤ A.size) (c1 : Mak 63 #[.string s] (.tuple #[.agg #[.int .i64 (c : Int), .int .i64 (t : Int), .bool b, .int .i64 0], .int .i64 (k : Int)])) (c2 : Mak 64 #[.agg #[.int .i64 (c : Int), .int .i64 (t : Int), .bool b, .int .i64 0]] (.tuple #[.string A, .int .i64 0]))
      (he : A.extract 0 (A.size - 1) = s.extract 0 k) (hlt0 : k < s.size)
    (m : Nat) (hm1 : 1 ≤ m) (hm2 : m ≤ 2) (hv : s[k].toNat = 128 + m) (hfew : k + 1 + m ≤ s.size) (L : Nat) (hL : L ≤ 65535) (cg : Ret 65 #[.string (s.extract (k + 1) (k + 1 + m))] (.tuple #[.int .u64 (L : Int), .bool true])) (B : ByteArray) (_hB : B.size ≤ 7) (c3 : Mak 64 #[.agg #[.int .i64 (c : Int), .int .i64 (t : Int), .bool b, .int .i64 (L : Int)]] (.tuple #[.string B, .int .i64 0]))
    (hne : B = s.extract 0 (k + 1 + m)) : Mak 45 #[.string s] (decV (⟨c, t, b, L⟩, B.size, 0)) := by
  intro w
  have hk0 : ((k : Int) == 0) = false := by rw [beq_eq_false_iff_ne]; omega
  have hki : (k : Int) ≤ (s.size : Int) := by omega
  have hq := str_eq_f he
  clear he
  obtain ⟨j, hj⟩ : ∃ j, A.size = j + 1 := ⟨A.size - 1, by omega⟩
  rw [hj, Nat.add_sub_cancel] at hq
  have hji : (A.size : Int) - 1 = (j : Int) := by omega
  have hjl : (j : Int) ≤ (A.size : Int) := by omega
  have hke : ((k : Int) == (s.size : Int)) = false := by rw [beq_eq_false_iff_ne]; omega
  have hkl : (k : Int) < (s.size : Int) := by omega
  have hv2 : ((s[k].toNat : Int) == 128) = false := by rw [beq_eq_false_iff_ne]; omega
  have hv3 : (s[k].toNat : Int) ≤ 130 := by omega
  have hv4 : 128 < (s[k].toNat : Int) := by omega
  have hmi : (s[k].toNat : Int) - 128 = (m : Int) := by omega
  have hfi : ¬ (s.size : Int) < (k : Int) + 1 + (m : Int) := by omega
  have hsi : (k : Int) + 1 + (m : Int) ≤ (s.size : Int) := by omega
  have hmp : 0 < (m : Int) := by omega
  clear hv hfew
  have hqe := str_eq_f hne
  clear hne
  go_enter Try.func45, Try.ntmps45
  go_wp2_with fail
  refine c1.calls0 ?_
  intro w1 h1
  have HR1 := Lib.hid ((cells4_new w (.int .i64 0) (.int .i64 0) (.bool false) (.int .i64 0) 76).below _ h1 (by simp))
  have H1 : Hid (Since w w1) := Lib.hid (Since.step ((Since.refl w).alloc _) h1)
  have hlt : w.heap.size < w1.heap.size := by have h9 := Below.size h1; simp at h9; omega
  clear h1
  obtain ⟨⟨r0, r1, r2, r3⟩, f0, f1, f2, f3⟩ := HR1.out
  go_wp2_with fail
  clear r0 r1 r2 r3 f0 f1 f2 f3
  refine c2.calls0 ?_
  intro w2 h2
  have HQ2 := Lib.hid ((cells4_new w1 (.int .i64 (c : Int)) (.int .i64 (t : Int)) (.bool b) (.int .i64 0) 76).below _ h2 (by simp))
  have HR2 := Lib.hid ((cells4.alloc HR1.out hlt _).below _ h2 (by simp; omega))
  have H2 : Hid (Since w w2) := Lib.hid (Since.step (H1.out.alloc _) h2)
  have hlt2 : w1.heap.size < w2.heap.size := by have h9 := Below.size h2; simp at h9; omega
  clear h2 HR1 H1
  obtain ⟨⟨r0, r1, r2, r3⟩, f0, f1, f2, f3⟩ := HR2.out
  obtain ⟨⟨q0, q1, q2, q3⟩, g0, g1, g2, g3⟩ := HQ2.out
  go_wp2_with fail
  go_quiet (fail)
  go_wp2_with fail
  refine cg.calls ?_
  go_wp2_with fail
  have HQ3 : Hid (cells4 (((w2.drewN nq).setCell ⟨w1.heap.size, 3, none⟩ (.int .i64 (s[k].toNat : Int))).setCell ⟨w1.heap.size, 3, none⟩ (.int .i64 (L : Int))) w1.heap.size (.int .i64 (c : Int)) (.int .i64 (t : Int)) (.bool b) (.int .i64 (L : Int))) := Lib.hid (cells4.set3 (cells4.set3 (w := w2.drewN nq) HQ2.out _) _)
  have HR3 : Hid (cells4 (((w2.drewN nq).setCell ⟨w1.heap.size, 3, none⟩ (.int .i64 (s[k].toNat : Int))).setCell ⟨w1.heap.size, 3, none⟩ (.int .i64 (L : Int))) w.heap.size (.int .i64 0) (.int .i64 0) (.bool false) (.int .i64 0)) := Lib.hid (cells4.other (cells4.other (w := w2.drewN nq) HR2.out (by omega) 3 _) (by omega) 3 _)
  have H3 : Hid (Since w (((w2.drewN nq).setCell ⟨w1.heap.size, 3, none⟩ (.int .i64 (s[k].toNat : Int))).setCell ⟨w1.heap.size, 3, none⟩ (.int .i64 (L : Int)))) := Lib.hid (Below.setCell (p := ⟨w1.heap.size, 3, none⟩) (Below.setCell (p := ⟨w1.heap.size, 3, none⟩) (Since.drewN H2.out nq) (Nat.le_of_lt hlt) _) (Nat.le_of_lt hlt) _)
  have hz3 : (((w2.drewN nq).setCell ⟨w1.heap.size, 3, none⟩ (.int .i64 (s[k].toNat : Int))).setCell ⟨w1.heap.size, 3, none⟩ (.int .i64 (L : Int))).heap.size = w2.heap.size := by simp
  clear r0 r1 r2 r3 f0 f1 f2 f3 q0 q1 q2 q3 g0 g1 g2 g3 HQ2 HR2 H2
  refine (c3).calls0 ?_
  intro w3 h3
  have HQ4 := Lib.hid (HQ3.out.below _ h3 (by rw [hz3]; omega))
  have HR4 := Lib.hid (HR3.out.below _ h3 (by rw [hz3]; omega))
  have H4 : Hid (Since w w3) := Lib.hid (Since.step H3.out h3)
  have hlt4 : w1.heap.size < w3.heap.size := by have h9 := Below.size h3; rw [hz3] at h9; omega
  clear h3 HQ3 HR3 H3
  obtain ⟨⟨r0, r1, r2, r3⟩, f0, f1, f2, f3⟩ := HR4.out
  obtain ⟨⟨q0, q1, q2, q3⟩, g0, g1, g2, g3⟩ := HQ4.out
  go_wp2_with fail
  obtain ⟨s0, s1, s2, s3⟩ := set4 r0 r1 r2 r3 (.int .i64 (c : Int)) (.int .i64 (t : Int)) (.bool b) (.int .i64 (L : Int))
  exact bodyPost_ret (v := decV (⟨c, t, b, L⟩, B.size, 0)) (by simp [results, Try.results45, go_sem, s0, s1, s2, s3]; try rfl) rfl ⟨rfl, Since4 H4.out (Nat.le_refl _)⟩

end RefHead
end Go.Proofs.Ytihpndfjcgodiaa
