/- The reference of package head: a tag that is read. -/
import Derived.Test.YtlcicpdnakmdnaaHeadL
import Derived.RegionTactic
import Derived.ChangeAlike
namespace Go.Proofs.Ytlcicpdnakmdnaa
open Go.RowKit
namespace RefHead
open Head

/-- digits to the base 128, f of them at most: T so far, k bytes so far -/
def digF : Nat → Nat → Nat → List UInt8 → Option (Nat × Nat)
  | 0, _, _, _ => none
  | _ + 1, _, _, [] => none
  | f + 1, T, k, d :: r => if d.toNat < 128 then some (128 * T + d.toNat, k) else digF f (128 * T + (d.toNat - 128)) (k + 1) r
theorem digR_F (l : List UInt8) : digR l = digF 3 0 1 l := by
  match l with
  | [] => rfl
  | [a] => by_cases ha : a.toNat < 128 <;> simp [digR, digF, ha]
  | [a, b] =>
    by_cases ha : a.toNat < 128
    · simp [digR, digF, ha]
    · by_cases hb : b.toNat < 128 <;> simp [digR, digF, ha, hb]
  | a :: b :: c :: m =>
    by_cases ha : a.toNat < 128
    · simp [digR, digF, ha]
    · by_cases hb : b.toNat < 128
      · simp [digR, digF, ha, hb]
      · by_cases hc : c.toNat < 128 <;> simp [digR, digF, ha, hb, hc]
/-- a tag as the reference reads it -/
def rtagR : List UInt8 → Option (Nat × Nat × Bool × Nat)
  | [] => none
  | x :: l => if x.toNat % 32 < 31 then some (x.toNat / 64, x.toNat % 32, decide (x.toNat / 32 % 2 = 1), 1) else
    match digR l with
    | none => none
    | some (t, k) => some (x.toNat / 64, t, decide (x.toNat / 32 % 2 = 1), k + 1)
def rtagV : Option (Nat × Nat × Bool × Nat) → Value
  | none => .tuple #[hdV 0 0 false 0, .int .i64 0]
  | some (c, t, b, k) => .tuple #[hdV c t b 0, .int .i64 (k : Int)]
theorem tagR_r (l : List UInt8) : tagR l = match rtagR l with | none => none | some (c, t, b, k) => if tagL c t b = l.take k then some (c, t, b, k) else none := by
  cases l with
  | nil => rfl
  | cons x l =>
    by_cases h31 : x.toNat % 32 < 31
    · have h := tagR_b (x :: l) (x.toNat / 64) (x.toNat % 32) (decide (x.toNat / 32 % 2 = 1)) 1 (by simp only [tagR, h31, if_true])
      simp only [tagR, rtagR, h31, if_true]
      rw [if_pos h.2.2.2.2.2]
    · simp only [tagR, rtagR, h31, if_false]
      cases digR l with
      | none => rfl
      | some p => rfl

theorem cells4.drew {w : World} {B : Nat} {a b c d : Value} (h : cells4 w B a b c d) : cells4 w.drew B a b c d := h
theorem cells4.set1 {w : World} {B : Nat} {a b c d : Value} (h : cells4 w B a b c d) (x : Value) : cells4 (w.setCell ⟨B, 1, none⟩ x) B a x c d := by
  obtain ⟨⟨h0, h1, h2, h3⟩, f0, f1, f2, f3⟩ := h
  refine ⟨⟨?_, ?_, ?_, ?_⟩, ?_, ?_, ?_, ?_⟩
  · rw [World.cell?_setCell_other _ _ _ _ (by simp)]; exact h0
  · exact World.cell?_setCell_same _ _ _ h1
  · rw [World.cell?_setCell_other _ _ _ _ (by simp)]; exact h2
  · rw [World.cell?_setCell_other _ _ _ _ (by simp)]; exact h3
  · simpa [go_sem] using f0
  · simpa [go_sem] using f1
  · simpa [go_sem] using f2
  · simpa [go_sem] using f3
theorem cells4.other {w : World} {B B' : Nat} {a b c d : Value} (h : cells4 w B a b c d) (hB : B' ≠ B) (j : Nat) (x : Value) : cells4 (w.setCell ⟨B', j, none⟩ x) B a b c d := by
  obtain ⟨⟨h0, h1, h2, h3⟩, f0, f1, f2, f3⟩ := h
  refine ⟨⟨?_, ?_, ?_, ?_⟩, ?_, ?_, ?_, ?_⟩
  · rw [World.cell?_setCell_other _ _ _ _ (by simp [hB])]; exact h0
  · rw [World.cell?_setCell_other _ _ _ _ (by simp [hB])]; exact h1
  · rw [World.cell?_setCell_other _ _ _ _ (by simp [hB])]; exact h2
  · rw [World.cell?_setCell_other _ _ _ _ (by simp [hB])]; exact h3
  · simpa [go_sem] using f0
  · simpa [go_sem] using f1
  · simpa [go_sem] using f2
  · simpa [go_sem] using f3

set_option maxRecDepth 100000 in
set_option maxHeartbeats 4000000 in
theorem rt_0 : Mak 36 #[.string ⟨#[]⟩] (rtagV none) := by
  intro w
  go_enter Try.func36, Try.ntmps36
  go_wp2_with fail
  exact bodyPost_ret (v := rtagV none) (by simp [results, Try.results36, go_sem]; try rfl) rfl ⟨rfl, by first | exact ((Since.refl w).alloc _) | exact ((Since.refl w).alloc _).alloc _⟩

set_option maxRecDepth 100000 in
set_option maxHeartbeats 4000000 in
theorem rt_short (s : ByteArray) (hp : 0 < s.size) (hm : s.size ≤ 1000000) (c t : Nat) (b : Bool) (hc : (s[0].toNat : Int) / 64 = (c : Int)) (ht : (s[0].toNat : Int) % 32 = (t : Int)) (h31 : t < 31) (hb : ((s[0].toNat : Int) / 32 % 2 == 1) = b) : Mak 36 #[.string s] (rtagV (some (c, t, b, 1))) := by
  intro w
  have hne := some_bytes_f s hp
  have hl0 := s[0].toNat_lt
  go_enter Try.func36, Try.ntmps36
  go_wp2_with fail
  exact bodyPost_ret (v := rtagV (some (c, t, b, 1))) (by simp [results, Try.results36, go_sem]; try rfl) rfl ⟨rfl, by first | exact ((Since.refl w).alloc _) | exact ((Since.refl w).alloc _).alloc _⟩

set_option maxRecDepth 100000 in
set_option maxHeartbeats 4000000 in
theorem rt_long (s : ByteArray) (hp : 0 < s.size) (hm : s.size ≤ 1000000) (c : Nat) (b : Bool) (hc : (s[0].toNat : Int) / 64 = (c : Int)) (ht : (s[0].toNat : Int) % 32 = 31) (hb : ((s[0].toNat : Int) / 32 % 2 == 1) = b) (V : Value) (hV : V = rtagV (match digR (s.data.toList.drop 1) with | none => none | some (t, k) => some (c, t, b, k + 1))) : Mak 36 #[.string s] V := by
  intro w
  have hne := some_bytes_f s hp
  have hl0 := s[0].toNat_lt
  have HV := Lib.hid hV
  clear hV
  go_enter Try.func36, Try.ntmps36
  go_wp2_with fail
  go_loopw [6] (fun i wr => ∃ k T : Nat, i = .int .i64 (k : Int) ∧ (k = 1 ∧ T ≤ 0 ∨ k = 2 ∧ T ≤ 127 ∨ k = 3 ∧ T ≤ 16383 ∨ k = 4 ∧ T ≤ 2097151) ∧ Hid (digR (s.data.toList.drop 1) = digF (4 - k) T k (s.data.toList.drop k)) ∧ Hid (cells4 wr w.heap.size (.int .i64 0) (.int .i64 0) (.bool false) (.int .i64 0)) ∧ Hid (cells4 wr (w.heap.size + 1) (.int .i64 (c : Int)) (.int .i64 (T : Int)) (.bool b) (.int .i64 0)) ∧ Hid (Since w wr)) (fun i _ => 4 - (intOf i).toNat)
  case atStart =>
    refine ⟨1, 0, rfl, Or.inl ⟨rfl, Nat.le_refl _⟩, Lib.hid (digR_F _), Lib.hid ?_, Lib.hid ?_, Lib.hid (((Since.refl w).alloc _).alloc _)⟩
    · exact (cells4_new w _ _ _ _ _).below _ (Below.alloc (Below.refl _ _) (Nat.le_refl _) _) (by simp)
    · have h := cells4_new (w.alloc (.cells #[.int .i64 0, .int .i64 0, .bool false, .int .i64 0] 23)) (.int .i64 (c : Int)) (.int .i64 0) (.bool b) (.int .i64 0) 23
      simpa using h
  case round =>
    obtain ⟨k, T, rfl, hk, HD, HR, HC, HS⟩ := hrel
    obtain ⟨⟨r0, r1, r2, r3⟩, f0, f1, f2, f3⟩ := HR.out
    obtain ⟨⟨q0, q1, q2, q3⟩, g0, g1, g2, g3⟩ := HC.out
    have hne1 : w.heap.size + 1 ≠ w.heap.size := by omega
    by_cases hlt : k < s.size
    · by_cases h4 : k = 4
      · have hV2 : V = rtagV none := by
          have h := HD.out
          rw [h4] at h
          rw [HV.out, h]; rfl
        have h4i : ((k : Nat) : Int) = 4 := by omega
        have h4n : ¬ (k : Int) < 4 := by omega
        subst hV2
        clear hk h4
        go_wp2_with fail
        obtain ⟨s0, s1, s2, s3⟩ := set4 r0 r1 r2 r3 (.int .i64 0) (.int .i64 0) (.bool false) (.int .i64 0)
        exact bodyPost_ret (v := rtagV none) (by simp [results, Try.results36, go_sem, s0, s1, s2, s3]; try rfl) rfl ⟨rfl, Since4 HS.out (Nat.le_refl _)⟩
      · have hd := drop_cons s k hlt
        have hx := s[k].toNat_lt
        have hk4 : k < 4 := by omega
        have hk4i : (k : Int) < 4 := by omega
        have hki : (k : Int) < (s.size : Int) := by omega
        have hD := HD.out
        rw [hd, show 4 - k = (3 - k) + 1 from by omega] at hD
        simp only [digF] at hD
        by_cases h128 : s[k].toNat < 128
        · rw [if_pos h128] at hD
          have hV2 : V = rtagV (some (c, 128 * T + s[k].toNat, b, k + 1)) := by rw [HV.out, hD]
          obtain ⟨N, hN⟩ : ∃ N, N = 128 * T + s[k].toNat := ⟨_, rfl⟩
          have hNi : 128 * (T : Int) + (s[k].toNat : Int) % 128 = (N : Int) := by omega
          rw [← hN] at hV2
          have hTb : T ≤ 16383 := by omega
          subst hV2
          clear hD hN hd
          go_wp2_with fail
          go_region
          go_wp2_with fail
          have r0 := (World.cell?_setCell_other wr ⟨w.heap.size + 1, 1, none⟩ ⟨w.heap.size, 0, none⟩ (.int .i64 (N : Int)) (by simp)).trans r0
          have r1 := (World.cell?_setCell_other wr ⟨w.heap.size + 1, 1, none⟩ ⟨w.heap.size, 1, none⟩ (.int .i64 (N : Int)) (by simp)).trans r1
          have r2 := (World.cell?_setCell_other wr ⟨w.heap.size + 1, 1, none⟩ ⟨w.heap.size, 2, none⟩ (.int .i64 (N : Int)) (by simp)).trans r2
          have r3 := (World.cell?_setCell_other wr ⟨w.heap.size + 1, 1, none⟩ ⟨w.heap.size, 3, none⟩ (.int .i64 (N : Int)) (by simp)).trans r3
          have H2 : Since w (wr.setCell ⟨w.heap.size + 1, 1, none⟩ (.int .i64 (N : Int))) := Below.setCell (p := ⟨w.heap.size + 1, 1, none⟩) HS.out (Nat.le_succ _) _
          obtain ⟨s0, s1, s2, s3⟩ := set4 r0 r1 r2 r3 (.int .i64 (c : Int)) (.int .i64 (N : Int)) (.bool b) (.int .i64 0)
          exact bodyPost_ret (v := rtagV (some (c, N, b, k + 1))) (by simp [results, Try.results36, go_sem, s0, s1, s2, s3]; try rfl) rfl ⟨rfl, (Since4 H2 (Nat.le_refl _)).drew⟩
        · rw [if_neg h128] at hD
          obtain ⟨N, hN⟩ : ∃ N, N = 128 * T + (s[k].toNat - 128) := ⟨_, rfl⟩
          have hNi : 128 * (T : Int) + (s[k].toNat : Int) % 128 = (N : Int) := by omega
          rw [← hN] at hD
          have hTb : T ≤ 16383 := by omega
          have hge : 128 ≤ s[k].toNat := by omega
          have hkn : k + 1 = 1 ∧ N ≤ 0 ∨ k + 1 = 2 ∧ N ≤ 127 ∨ k + 1 = 3 ∧ N ≤ 16383 ∨ k + 1 = 4 ∧ N ≤ 2097151 := by omega
          rw [show 3 - k = 4 - (k + 1) from by omega] at hD
          have HD2 := Lib.hid hD
          clear hD hN hd
          go_wp2_with fail
          go_region
          go_wp2_with fail
          go_roundw
          case rel => exact ⟨k + 1, N, by go_num, hkn, HD2, Lib.hid (cells4.drew (cells4.other HR.out hne1 1 _)), Lib.hid (cells4.drew (cells4.set1 HC.out _)), Lib.hid (Since.drew (Below.setCell (p := ⟨w.heap.size + 1, 1, none⟩) HS.out (Nat.le_succ _) _))⟩
          case measure => simp [intOf]; omega
    · have hV2 : V = rtagV none := by
        have h := HD.out
        rw [show s.data.toList.drop k = [] from List.drop_eq_nil_of_le (by show s.size ≤ k; omega)] at h
        rw [HV.out, h]
        rcases hk with ⟨rfl, _⟩ | ⟨rfl, _⟩ | ⟨rfl, _⟩ | ⟨rfl, _⟩ <;> rfl
      subst hV2
      have hki : ¬ (k : Int) < (s.size : Int) := by omega
      go_wp2_with fail
      obtain ⟨s0, s1, s2, s3⟩ := set4 r0 r1 r2 r3 (.int .i64 0) (.int .i64 0) (.bool false) (.int .i64 0)
      exact bodyPost_ret (v := rtagV none) (by simp [results, Try.results36, go_sem, s0, s1, s2, s3]; try rfl) rfl ⟨rfl, Since4 HS.out (Nat.le_refl _)⟩

theorem rt_mak (s : ByteArray) (hm : s.size ≤ 1000000) (V : Value) (hV : V = rtagV (rtagR s.data.toList)) : Mak 36 #[.string s] V := by
  by_cases h0 : s.size = 0
  · obtain rfl : s = ⟨#[]⟩ := ba_ext (List.eq_nil_of_length_eq_zero h0)
    rw [hV]
    exact rt_0
  · have hp : 0 < s.size := by omega
    have hl := s[0].toNat_lt
    have e0 : s.data.toList = s[0] :: s.data.toList.drop 1 := drop_cons s 0 hp
    have hb : ((s[0].toNat : Int) / 32 % 2 == 1) = decide (s[0].toNat / 32 % 2 = 1) := by
      by_cases h : s[0].toNat / 32 % 2 = 1
      · rw [decide_eq_true h, beq_iff_eq]; omega
      · rw [decide_eq_false h, beq_eq_false_iff_ne]; omega
    by_cases h : s[0].toNat % 32 < 31
    · have hV2 : V = rtagV (some (s[0].toNat / 64, s[0].toNat % 32, decide (s[0].toNat / 32 % 2 = 1), 1)) := by
        rw [hV, e0]
        simp only [rtagR, h, if_true]
      rw [hV2]
      exact rt_short s hp hm _ _ _ (by omega) (by omega) h hb
    · refine rt_long s hp hm (s[0].toNat / 64) _ (by omega) (by omega) hb V ?_
      rw [hV, e0]
      simp only [rtagR, h, if_false]
      rfl
end RefHead
end Go.Proofs.Ytlcicpdnakmdnaa
