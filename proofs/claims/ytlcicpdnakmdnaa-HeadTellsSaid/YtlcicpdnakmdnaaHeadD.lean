/- The walks of package head: Decode. -/
import Derived.Test.YtlcicpdnakmdnaaHeadT1
import Derived.Test.YtlcicpdnakmdnaaHeadT2
import Derived.Test.YtlcicpdnakmdnaaHeadT3
import Derived.Test.YtlcicpdnakmdnaaHeadTF
import Derived.Test.YtlcicpdnakmdnaaHeadTG
namespace Go.Proofs.Ytlcicpdnakmdnaa
open Go.RowKit
namespace Head

theorem chk_if (s : ByteArray) (c t : Nat) (b : Bool) (k : Nat) (V : Value) (hV : V = chkT c b s.data.toList (some (t, k))) : V = if bs (tagL c t b) = s.extract 0 (k + 1) then tagV (some (c, t, b, k + 1)) else tagV none := by
  rw [hV]
  show (if _ then _ else _) = _
  by_cases h : bs (tagL c t b) = s.extract 0 (k + 1)
  · rw [if_pos h, if_pos (by have h2 := congrArg (fun x => x.data.toList) h; simpa [list_bs, ext_list] using h2)]
  · rw [if_neg h, if_neg (fun h2 => h (ba_ext (by rw [list_bs, ext_list, h2]; rfl)))]

set_option maxHeartbeats 1000000 in
theorem rtag_long (s : ByteArray) (hp : 0 < s.size) (hm : s.size ≤ 1000000) (c : Nat) (b : Bool) (hc : (s[0].toNat : Int) / 64 = (c : Int)) (hc3 : (c : Int) ≤ 3) (ht : bits .and .u8 (s[0].toNat : Int) 31 = 31) (hb : (bits .and .u8 (s[0].toNat : Int) 32 != 0) = b) (V : Value) (hV : V = chkT c b s.data.toList (digR (s.data.toList.drop 1))) : Mak 34 #[.string s] V := by
  by_cases l1 : s.size ≤ 1
  · rw [show s.data.toList.drop 1 = [] from List.drop_eq_nil_of_le l1] at hV
    rw [hV]
    exact rtag_f0 s hm c b (by omega) (by omega) hc hc3 ht hb
  · have hp1 : 1 < s.size := by omega
    rw [drop_cons s 1 hp1] at hV
    have hl1 := s[1].toNat_lt
    by_cases d1 : s[1].toNat < 128
    · rw [digR_1 _ _ d1] at hV
      exact rtag_k1 s hm c b hp1 hc hc3 ht hb d1 _ (tag_mak c _ 0 b (by omega) (by omega) _ rfl) V (chk_if s c _ b 1 V hV)
    · have he1 : s[1].toNat = 128 + (s[1].toNat - 128) := by omega
      by_cases l2 : s.size ≤ 2
      · rw [show s.data.toList.drop (1 + 1) = [] from List.drop_eq_nil_of_le l2, digR_1n _ d1] at hV
        rw [hV]
        exact rtag_f1 s hm c b (by omega) hp1 hc hc3 ht hb _ he1
      · have hp2 : 2 < s.size := by omega
        rw [drop_cons s (1 + 1) hp2] at hV
        have hl2 := s[2].toNat_lt
        by_cases d2 : s[2].toNat < 128
        · rw [digR_2 _ _ _ d1 d2] at hV
          exact rtag_k2 s hm c b hp2 hc hc3 ht hb _ he1 d2 _ rfl _ (tag_mak c _ 0 b (by omega) (by omega) _ rfl) V (chk_if s c _ b 2 V hV)
        · have he2 : s[2].toNat = 128 + (s[2].toNat - 128) := by omega
          by_cases l3 : s.size ≤ 3
          · rw [show s.data.toList.drop (1 + 1 + 1) = [] from List.drop_eq_nil_of_le l3, digR_2n _ _ d1 d2] at hV
            rw [hV]
            exact rtag_f2 s hm c b (by omega) hp2 hc hc3 ht hb _ he1 _ he2 _ rfl
          · have hp3 : 3 < s.size := by omega
            rw [drop_cons s (1 + 1 + 1) hp3] at hV
            have hl3 := s[3].toNat_lt
            by_cases d3 : s[3].toNat < 128
            · rw [digR_3 _ _ _ _ d1 d2 d3] at hV
              exact rtag_k3 s hm c b hp3 hc hc3 ht hb _ he1 _ he2 d3 _ rfl _ rfl _ (tag_mak c _ 0 b (by omega) (by omega) _ rfl) V (chk_if s c _ b 3 V hV)
            · rw [digR_3n _ _ _ _ d1 d2 d3] at hV
              rw [hV]
              exact rtag_f3 s hm c b hp3 hc hc3 ht hb _ he1 _ he2 (s[3].toNat - 128) (by omega) _ rfl _ rfl

theorem rtag_mak (s : ByteArray) (hm : s.size ≤ 1000000) (V : Value) (hV : V = tagV (tagR s.data.toList)) : Mak 34 #[.string s] V := by
  by_cases h0 : s.size = 0
  · obtain rfl : s = ⟨#[]⟩ := ba_ext (List.eq_nil_of_length_eq_zero h0)
    exact rtag_0 V hV
  · have hp : 0 < s.size := by omega
    have hl := s[0].toNat_lt
    have e0 : s.data.toList = s[0] :: s.data.toList.drop 1 := drop_cons s 0 hp
    have h31 := and31 ⟨s[0].toNat, hl⟩
    have h32 := and32 ⟨s[0].toNat, hl⟩
    by_cases h : s[0].toNat % 32 < 31
    · have hV2 : V = tagV (some (s[0].toNat / 64, s[0].toNat % 32, decide (s[0].toNat / 32 % 2 = 1), 1)) := by
        rw [hV, e0]
        simp only [tagR, h, if_true]
      rw [hV2]
      refine rtag_short s hp hm _ _ _ (by omega) h31 h ?_
      rw [h32]
      by_cases hb : s[0].toNat / 32 % 2 = 1
      · rw [if_pos hb, if_pos (decide_eq_true hb)]
      · rw [if_neg hb, if_neg (by simpa using hb)]
    · have hV2 : V = chkT (s[0].toNat / 64) (decide (s[0].toNat / 32 % 2 = 1)) s.data.toList (digR (s.data.toList.drop 1)) := by
        rw [hV, e0, tagV_cons _ _ h]; rfl
      refine rtag_long s hp hm _ _ (by omega) (by omega) ?_ ?_ V hV2
      · rw [h31]; show ((s[0].toNat % 32 : Nat) : Int) = 31; omega
      · rw [h32]
        by_cases hb : s[0].toNat / 32 % 2 = 1
        · rw [if_pos hb, decide_eq_true hb]; rfl
        · rw [if_neg hb, decide_eq_false hb]; rfl

theorem tagR_le (l : List UInt8) (c t : Nat) (b : Bool) (k : Nat) (h : tagR l = some (c, t, b, k)) : k ≤ l.length := by
  cases l with
  | nil => cases h
  | cons x l =>
    by_cases h31 : x.toNat % 32 < 31
    · simp only [tagR, h31, if_true] at h
      cases h
      simp
    · simp only [tagR, h31, if_false] at h
      cases hd : digR l with
      | none => rw [hd] at h; cases h
      | some p =>
        obtain ⟨t2, k2⟩ := p
        rw [hd] at h
        simp only [] at h
        split at h
        · rename_i he
          cases h
          have h9 : k2 ≤ l.length := by
            match l, hd with
            | [], hd => simp [digR] at hd
            | [a], hd => by_cases ha : a.toNat < 128 <;> simp [digR, ha] at hd; simp; omega
            | [a, b], hd =>
              by_cases ha : a.toNat < 128
              · simp [digR, ha] at hd; simp; omega
              · by_cases hb : b.toNat < 128 <;> simp [digR, ha, hb] at hd; simp; omega
            | a :: b :: c :: m, hd =>
              by_cases ha : a.toNat < 128
              · simp [digR, ha] at hd; simp; omega
              · by_cases hb : b.toNat < 128
                · simp [digR, ha, hb] at hd; simp; omega
                · by_cases hc : c.toNat < 128 <;> simp [digR, ha, hb, hc] at hd; simp; omega
          simp; omega
        · cases h

theorem digR_b (l : List UInt8) (t k : Nat) (h : digR l = some (t, k)) : t ≤ 2097151 ∧ 1 ≤ k ∧ k ≤ 3 ∧ k ≤ l.length := by
  match l, h with
  | [], h => simp [digR] at h
  | [a], h =>
    have h1 := a.toNat_lt
    by_cases ha : a.toNat < 128 <;> simp [digR, ha] at h; simp; omega
  | [a, b], h =>
    have h1 := a.toNat_lt
    have h2 := b.toNat_lt
    by_cases ha : a.toNat < 128
    · simp [digR, ha] at h; simp; omega
    · by_cases hb : b.toNat < 128 <;> simp [digR, ha, hb] at h; simp; omega
  | a :: b :: c :: m, h =>
    have h1 := a.toNat_lt
    have h2 := b.toNat_lt
    have h3 := c.toNat_lt
    by_cases ha : a.toNat < 128
    · simp [digR, ha] at h; simp; omega
    · by_cases hb : b.toNat < 128
      · simp [digR, ha, hb] at h; simp; omega
      · by_cases hc : c.toNat < 128 <;> simp [digR, ha, hb, hc] at h; simp; omega
theorem tagR_b (l : List UInt8) (c t : Nat) (b : Bool) (k : Nat) (h : tagR l = some (c, t, b, k)) : c ≤ 3 ∧ t ≤ 2097151 ∧ 1 ≤ k ∧ k ≤ 4 ∧ k ≤ l.length ∧ tagL c t b = l.take k := by
  cases l with
  | nil => cases h
  | cons x l =>
    have hx := x.toNat_lt
    by_cases h31 : x.toNat % 32 < 31
    · simp only [tagR, h31, if_true] at h
      cases h
      refine ⟨by omega, by omega, by omega, by omega, by simp, ?_⟩
      unfold tagL
      rw [if_pos h31]
      show [_] = [x]
      congr 1
      have e : first (x.toNat / 64) (x.toNat % 32) (decide (x.toNat / 32 % 2 = 1)) = x.toNat := by
        unfold first
        by_cases hb : x.toNat / 32 % 2 = 1
        · rw [if_pos (decide_eq_true hb)]; omega
        · rw [if_neg (by simpa using hb)]; omega
      rw [e]
      simp
    · simp only [tagR, h31, if_false] at h
      cases hd : digR l with
      | none => rw [hd] at h; cases h
      | some p =>
        obtain ⟨t2, k2⟩ := p
        rw [hd] at h
        simp only [] at h
        obtain ⟨b1, b2, b3, b4⟩ := digR_b l t2 k2 hd
        split at h
        · rename_i he
          cases h
          exact ⟨by omega, b1, by omega, by omega, by simp; omega, he⟩
        · cases h
theorem lenR_b (l : List UInt8) (n k : Nat) (h : lenR l = (n, k, 0)) : n ≤ 65535 ∧ 1 ≤ k ∧ k ≤ 3 ∧ k ≤ l.length ∧ lenL n = l.take k := by
  cases l with
  | nil => cases h
  | cons x l =>
    have hx := x.toNat_lt
    by_cases a1 : x.toNat = 128
    · simp [lenR, a1] at h
    · by_cases a2 : x.toNat < 128
      · simp [lenR, a1, a2] at h
        obtain ⟨rfl, rfl⟩ := h
        refine ⟨by omega, by omega, by omega, by simp, ?_⟩
        unfold lenL; rw [if_pos a2]; simp
      · by_cases a3 : 130 < x.toNat
        · simp [lenR, a1, a2, a3] at h
        · by_cases a4 : x.toNat = 129
          · have ex : x = 129 := UInt8.toNat_inj.1 a4
            cases l with
            | nil => simp [lenR, a4] at h
            | cons d m =>
              have hd := d.toNat_lt
              by_cases g : 128 ≤ d.toNat
              · simp [lenR, a4, g] at h
                obtain ⟨rfl, rfl⟩ := h
                refine ⟨by omega, by omega, by omega, by simp, ?_⟩
                unfold lenL; rw [if_neg (by omega), if_pos (by omega), ex]; simp
              · simp [lenR, a4, g] at h
          · have e130 : x.toNat = 130 := by omega
            have ex : x = 130 := UInt8.toNat_inj.1 e130
            match l, h with
            | [], h => simp [lenR, e130] at h
            | [d], h => simp [lenR, e130] at h
            | d :: e :: m, h =>
              have hd := d.toNat_lt
              have he := e.toNat_lt
              by_cases g : 256 ≤ 256 * d.toNat + e.toNat
              · simp [lenR, e130, g] at h
                obtain ⟨rfl, rfl⟩ := h
                refine ⟨by omega, by omega, by omega, by simp, ?_⟩
                unfold lenL
                rw [if_neg (by omega), if_neg (by omega), ex, show (256 * d.toNat + e.toNat) / 256 = d.toNat from by omega, show (256 * d.toNat + e.toNat) % 256 = e.toNat from by omega]
                simp
              · simp [lenR, e130, g] at h
theorem lenR_e (l : List UInt8) : (lenR l).2.2 = 0 ∨ (lenR l).2.2 = 4 ∨ (lenR l).2.2 = 5 := by
  cases l with
  | nil => exact Or.inr (Or.inr rfl)
  | cons x l =>
    unfold lenR
    dsimp only
    repeat' split
    all_goals simp

def decV (d : Hd × Nat × Nat) : Value := .tuple #[hdV d.1.c d.1.t d.1.b d.1.n, .int .i64 (d.2.1 : Int), .int .i64 (d.2.2 : Int)]
def cells4 (w : World) (B : Nat) (a b c d : Value) : Prop := (w.cell? ⟨B, 0, none⟩ = some a ∧ w.cell? ⟨B, 1, none⟩ = some b ∧ w.cell? ⟨B, 2, none⟩ = some c ∧ w.cell? ⟨B, 3, none⟩ = some d) ∧
  (w.frozen? ⟨B, 0, none⟩ = false ∧ w.frozen? ⟨B, 1, none⟩ = false ∧ w.frozen? ⟨B, 2, none⟩ = false ∧ w.frozen? ⟨B, 3, none⟩ = false)
theorem cells4_new (w : World) (a b c d : Value) (T : TypeId) : cells4 (w.alloc (.cells #[a, b, c, d] T)) w.heap.size a b c d := by
  refine ⟨box4 (Since.refl _), ?_⟩
  simp [go_sem]
theorem cells4.below {w w' : World} {B : Nat} {a b c d : Value} (h : cells4 w B a b c d) (n : Nat) (hb : Below n w w') (hB : B < n) : cells4 w' B a b c d := by
  obtain ⟨⟨h0, h1, h2, h3⟩, f0, f1, f2, f3⟩ := h
  refine ⟨⟨?_, ?_, ?_, ?_⟩, ?_, ?_, ?_, ?_⟩
  · rw [hb.cell hB]; exact h0
  · rw [hb.cell hB]; exact h1
  · rw [hb.cell hB]; exact h2
  · rw [hb.cell hB]; exact h3
  · rw [hb.frozen hB]; exact f0
  · rw [hb.frozen hB]; exact f1
  · rw [hb.frozen hB]; exact f2
  · rw [hb.frozen hB]; exact f3
theorem Since4 {w w' : World} {a b c d : Value} {B : Nat} (h : Since w w') (hB : w.heap.size ≤ B) : Since w ((((w'.setCell ⟨B, 0, none⟩ a).setCell ⟨B, 1, none⟩ b).setCell ⟨B, 2, none⟩ c).setCell ⟨B, 3, none⟩ d) :=
  Below.setCell (p := ⟨B, 3, none⟩) (Below.setCell (p := ⟨B, 2, none⟩) (Below.setCell (p := ⟨B, 1, none⟩) (Below.setCell (p := ⟨B, 0, none⟩) h hB _) hB _) hB _) hB _

set_option maxRecDepth 100000 in
set_option maxHeartbeats 4000000 in
theorem dec_none (s : ByteArray) (c1 : Mak 34 #[.string s] (.tuple #[.agg #[.int .i64 0, .int .i64 0, .bool false, .int .i64 0], .int .i64 0, .bool false])) : Mak 12 #[.string s] (decV (none0, 0, 5)) := by
  intro w
  go_enter Try.func12, Try.ntmps12
  go_wp2_with fail
  refine c1.calls0 ?_
  intro w1 h1
  obtain ⟨⟨r0, r1, r2, r3⟩, f0, f1, f2, f3⟩ := (cells4_new w (.int .i64 0) (.int .i64 0) (.bool false) (.int .i64 0) 28).below _ h1 (by simp)
  have H1 : Hid (Since w w1) := Lib.hid (Since.step ((Since.refl w).alloc _) h1)
  have hlt : w.heap.size < w1.heap.size := by have h9 := Below.size h1; simp at h9; omega
  clear h1
  go_wp2_with fail
  obtain ⟨s0, s1, s2, s3⟩ := set4 r0 r1 r2 r3 (.int .i64 0) (.int .i64 0) (.bool false) (.int .i64 0)
  exact bodyPost_ret (v := decV (none0, 0, 5)) (by simp [results, Try.results12, go_sem, s0, s1, s2, s3, hlt]; try rfl) rfl ⟨rfl, (Since4 H1.out (Nat.le_refl _)).alloc _⟩

set_option maxRecDepth 100000 in
set_option maxHeartbeats 4000000 in
theorem dec_err (s : ByteArray) (hm : s.size ≤ 1000000) (c t : Nat) (b : Bool) (k n z e : Nat) (hk : k ≤ s.size) (he : (e : Int) ≠ 0) (c1 : Mak 34 #[.string s] (.tuple #[.agg #[.int .i64 (c : Int), .int .i64 (t : Int), .bool b, .int .i64 0], .int .i64 (k : Int), .bool true])) (c2 : Mak 35 #[.string (s.extract k s.size)] (.tuple #[.int .i64 (n : Int), .int .i64 (z : Int), .int .i64 (e : Int)])) : Mak 12 #[.string s] (decV (none0, 0, e)) := by
  intro w
  have hki : (k : Int) ≤ (s.size : Int) := by omega
  have heb : ((e : Int) != 0) = true := by rw [bne_iff_ne]; exact he
  clear he
  go_enter Try.func12, Try.ntmps12
  go_wp2_with fail
  refine c1.calls0 ?_
  intro w1 h1
  obtain ⟨⟨r0, r1, r2, r3⟩, f0, f1, f2, f3⟩ := (cells4_new w (.int .i64 0) (.int .i64 0) (.bool false) (.int .i64 0) 28).below _ h1 (by simp)
  have H1 : Hid (Since w w1) := Lib.hid (Since.step ((Since.refl w).alloc _) h1)
  have hlt : w.heap.size < w1.heap.size := by have h9 := Below.size h1; simp at h9; omega
  clear h1
  go_wp2_with fail
  refine c2.calls0 ?_
  intro w2 h2
  obtain ⟨⟨q0, q1, q2, q3⟩, g0, g1, g2, g3⟩ := (cells4_new w1 (.int .i64 (c : Int)) (.int .i64 (t : Int)) (.bool b) (.int .i64 0) 28).below _ h2 (by simp)
  have r0 : w2.cell? ⟨w.heap.size, 0, none⟩ = some (.int .i64 0) := (h2.cell (p := ⟨w.heap.size, 0, none⟩) (by simp; omega)).trans ((World.cell?_alloc_lt _ _ _ hlt).trans r0)
  have r1 : w2.cell? ⟨w.heap.size, 1, none⟩ = some (.int .i64 0) := (h2.cell (p := ⟨w.heap.size, 1, none⟩) (by simp; omega)).trans ((World.cell?_alloc_lt _ _ _ hlt).trans r1)
  have r2 : w2.cell? ⟨w.heap.size, 2, none⟩ = some (.bool false) := (h2.cell (p := ⟨w.heap.size, 2, none⟩) (by simp; omega)).trans ((World.cell?_alloc_lt _ _ _ hlt).trans r2)
  have r3 : w2.cell? ⟨w.heap.size, 3, none⟩ = some (.int .i64 0) := (h2.cell (p := ⟨w.heap.size, 3, none⟩) (by simp; omega)).trans ((World.cell?_alloc_lt _ _ _ hlt).trans r3)
  have f0 : w2.frozen? ⟨w.heap.size, 0, none⟩ = false := (h2.frozen (p := ⟨w.heap.size, 0, none⟩) (by simp; omega)).trans (by simp [go_sem, hlt, f0])
  have f1 : w2.frozen? ⟨w.heap.size, 1, none⟩ = false := (h2.frozen (p := ⟨w.heap.size, 1, none⟩) (by simp; omega)).trans (by simp [go_sem, hlt, f1])
  have f2 : w2.frozen? ⟨w.heap.size, 2, none⟩ = false := (h2.frozen (p := ⟨w.heap.size, 2, none⟩) (by simp; omega)).trans (by simp [go_sem, hlt, f2])
  have f3 : w2.frozen? ⟨w.heap.size, 3, none⟩ = false := (h2.frozen (p := ⟨w.heap.size, 3, none⟩) (by simp; omega)).trans (by simp [go_sem, hlt, f3])
  have H2 : Hid (Since w w2) := Lib.hid (Since.step (H1.out.alloc _) h2)
  clear h2
  go_wp2_with fail
  obtain ⟨s0, s1, s2, s3⟩ := set4 r0 r1 r2 r3 (.int .i64 0) (.int .i64 0) (.bool false) (.int .i64 0)
  exact bodyPost_ret (v := decV (none0, 0, e)) (by simp [results, Try.results12, go_sem, s0, s1, s2, s3]; try rfl) rfl ⟨rfl, Since4 H2.out (Nat.le_refl _)⟩

set_option maxRecDepth 100000 in
set_option maxHeartbeats 4000000 in
theorem dec_ok (s : ByteArray) (hm : s.size ≤ 1000000) (c t : Nat) (b : Bool) (k n z : Nat) (hk : k ≤ s.size) (hz : z ≤ 3) (c1 : Mak 34 #[.string s] (.tuple #[.agg #[.int .i64 (c : Int), .int .i64 (t : Int), .bool b, .int .i64 0], .int .i64 (k : Int), .bool true])) (c2 : Mak 35 #[.string (s.extract k s.size)] (.tuple #[.int .i64 (n : Int), .int .i64 (z : Int), .int .i64 ((0 : Nat) : Int)])) : Mak 12 #[.string s] (decV (⟨c, t, b, n⟩, k + z, 0)) := by
  intro w
  have hki : (k : Int) ≤ (s.size : Int) := by omega
  go_enter Try.func12, Try.ntmps12
  go_wp2_with fail
  refine c1.calls0 ?_
  intro w1 h1
  obtain ⟨⟨r0, r1, r2, r3⟩, f0, f1, f2, f3⟩ := (cells4_new w (.int .i64 0) (.int .i64 0) (.bool false) (.int .i64 0) 28).below _ h1 (by simp)
  have H1 : Hid (Since w w1) := Lib.hid (Since.step ((Since.refl w).alloc _) h1)
  have hlt : w.heap.size < w1.heap.size := by have h9 := Below.size h1; simp at h9; omega
  clear h1
  go_wp2_with fail
  refine c2.calls0 ?_
  intro w2 h2
  obtain ⟨⟨q0, q1, q2, q3⟩, g0, g1, g2, g3⟩ := (cells4_new w1 (.int .i64 (c : Int)) (.int .i64 (t : Int)) (.bool b) (.int .i64 0) 28).below _ h2 (by simp)
  have r0 : w2.cell? ⟨w.heap.size, 0, none⟩ = some (.int .i64 0) := (h2.cell (p := ⟨w.heap.size, 0, none⟩) (by simp; omega)).trans ((World.cell?_alloc_lt _ _ _ hlt).trans r0)
  have r1 : w2.cell? ⟨w.heap.size, 1, none⟩ = some (.int .i64 0) := (h2.cell (p := ⟨w.heap.size, 1, none⟩) (by simp; omega)).trans ((World.cell?_alloc_lt _ _ _ hlt).trans r1)
  have r2 : w2.cell? ⟨w.heap.size, 2, none⟩ = some (.bool false) := (h2.cell (p := ⟨w.heap.size, 2, none⟩) (by simp; omega)).trans ((World.cell?_alloc_lt _ _ _ hlt).trans r2)
  have r3 : w2.cell? ⟨w.heap.size, 3, none⟩ = some (.int .i64 0) := (h2.cell (p := ⟨w.heap.size, 3, none⟩) (by simp; omega)).trans ((World.cell?_alloc_lt _ _ _ hlt).trans r3)
  have f0 : w2.frozen? ⟨w.heap.size, 0, none⟩ = false := (h2.frozen (p := ⟨w.heap.size, 0, none⟩) (by simp; omega)).trans (by simp [go_sem, hlt, f0])
  have f1 : w2.frozen? ⟨w.heap.size, 1, none⟩ = false := (h2.frozen (p := ⟨w.heap.size, 1, none⟩) (by simp; omega)).trans (by simp [go_sem, hlt, f1])
  have f2 : w2.frozen? ⟨w.heap.size, 2, none⟩ = false := (h2.frozen (p := ⟨w.heap.size, 2, none⟩) (by simp; omega)).trans (by simp [go_sem, hlt, f2])
  have f3 : w2.frozen? ⟨w.heap.size, 3, none⟩ = false := (h2.frozen (p := ⟨w.heap.size, 3, none⟩) (by simp; omega)).trans (by simp [go_sem, hlt, f3])
  have H2 : Hid (Since w w2) := Lib.hid (Since.step (H1.out.alloc _) h2)
  clear h2
  go_wp2_with fail
  have hle : w.heap.size ≤ w1.heap.size := Nat.le_of_lt hlt
  have r0 := (World.cell?_setCell_other w2 ⟨w1.heap.size, 3, none⟩ ⟨w.heap.size, 0, none⟩ (.int .i64 (n : Int)) (by simp)).trans r0
  have r1 := (World.cell?_setCell_other w2 ⟨w1.heap.size, 3, none⟩ ⟨w.heap.size, 1, none⟩ (.int .i64 (n : Int)) (by simp)).trans r1
  have r2 := (World.cell?_setCell_other w2 ⟨w1.heap.size, 3, none⟩ ⟨w.heap.size, 2, none⟩ (.int .i64 (n : Int)) (by simp)).trans r2
  have r3 := (World.cell?_setCell_other w2 ⟨w1.heap.size, 3, none⟩ ⟨w.heap.size, 3, none⟩ (.int .i64 (n : Int)) (by first | (simp; done) | (simp; omega))).trans r3
  have H2 : Hid (Since w (w2.setCell ⟨w1.heap.size, 3, none⟩ (.int .i64 (n : Int)))) := Lib.hid (Below.setCell (p := ⟨w1.heap.size, 3, none⟩) H2.out hle _)
  obtain ⟨s0, s1, s2, s3⟩ := set4 r0 r1 r2 r3 (.int .i64 (c : Int)) (.int .i64 (t : Int)) (.bool b) (.int .i64 (n : Int))
  exact bodyPost_ret (v := decV (⟨c, t, b, n⟩, k + z, 0)) (by simp [results, Try.results12, go_sem, s0, s1, s2, s3]; try rfl) rfl ⟨rfl, Since4 H2.out (Nat.le_refl _)⟩

theorem dec_mak (s : ByteArray) (hm : s.size ≤ 1000000) (V : Value) (hV : V = decV (dec s.data.toList)) : Mak 12 #[.string s] V := by
  have c1 := rtag_mak s hm _ rfl
  unfold dec at hV
  cases ht : tagR s.data.toList with
  | none =>
    rw [ht] at hV c1
    rw [hV]
    exact dec_none s c1
  | some q =>
    obtain ⟨c, t, b, k⟩ := q
    rw [ht] at hV c1
    obtain ⟨h1, h2, h3, h4, h5, h6⟩ := tagR_b _ _ _ _ _ ht
    have h5' : k ≤ s.size := h5
    have hx : (s.extract k s.size).data.toList = s.data.toList.drop k := by
      rw [ext_list, List.take_of_length_le (by rw [List.length_drop]; exact Nat.le_refl _)]
    have hxs : (s.extract k s.size).size ≤ 1000000 := by simp; omega
    obtain ⟨n, z, e, hr⟩ : ∃ n z e, lenR (s.data.toList.drop k) = (n, z, e) := ⟨_, _, _, rfl⟩
    simp only [hr] at hV
    have c2 := rlen_mak _ hxs n z e (by rw [hx, hr])
    by_cases he : e = 0
    · subst he
      have hb := lenR_b _ _ _ hr
      rw [if_pos rfl] at hV
      rw [hV]
      exact dec_ok s hm c t b k n z h5' hb.2.2.1 c1 c2
    · rw [if_neg he] at hV
      rw [hV]
      exact dec_err s hm c t b k n z e h5' (by omega) c1 c2
end Head
end Go.Proofs.Ytlcicpdnakmdnaa
