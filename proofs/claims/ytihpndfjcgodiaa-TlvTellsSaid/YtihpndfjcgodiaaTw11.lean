/- Joined texts. -/
-- PACK: YtihpndfjcgodiaaSlEq
import Derived.Test.YtihpndfjcgodiaaTw9
import Derived.Deep.QuietTactic
import Derived.BigQuiet

/- slices.Equal of slices of strings. -/
namespace Go.Proofs.Ytihpndfjcgodiaa
open Go.RowKit

theorem since_drewN {W0 w : World} (h : Since W0 w) (n : Nat) : Since W0 (w.drewN n) := h.step ⟨rfl, rfl, rfl, Nat.le_refl _, fun _ _ => rfl⟩

theorem cell_since {w wr : World} {ad : Addr} {i : Nat} {v : Value} (h : Since w wr) (hb : ad.block < w.heap.size) (hc : w.cell? (ad.add i) = some v) : wr.cell? (ad.add i) = some v :=
  (h.below.cell (by rw [show (ad.add i).block = ad.block from by unfold Addr.add; split <;> rfl]; exact hb)).trans hc

theorem take_eq_snoc (ss tt : List ByteArray) (k : Nat) (h1 : k < ss.length) (h2 : k < tt.length) (h : ss.take k = tt.take k) (he : ss.getD k ⟨#[]⟩ = tt.getD k ⟨#[]⟩) : ss.take (k + 1) = tt.take (k + 1) := by
  rw [List.take_succ_eq_append_getElem h1, List.take_succ_eq_append_getElem h2, h]
  simp [List.getD, List.getElem?_eq_getElem h1, List.getElem?_eq_getElem h2] at he
  rw [he]

set_option maxRecDepth 100000 in
set_option maxHeartbeats 1000000 in
theorem equal_some (w : World) (a1 a2 : Addr) (n c1 c2 : Nat) (ss tt : List ByteArray) (h1 : n = ss.length) (h2 : n = tt.length) (hm : n ≤ 9223372036854775807) (b1 : a1.block < w.heap.size) (b2 : a2.block < w.heap.size)
    (e1 : ∀ i, i < n → w.cell? (a1.add i) = some (.string (ss.getD i ⟨#[]⟩))) (e2 : ∀ i, i < n → w.cell? (a2.add i) = some (.string (tt.getD i ⟨#[]⟩))) (b : Bool) (hb : b = decide (ss = tt)) :
    Calls Try.prog 19 #[.slice (some a1) n c1, .slice (some a2) n c2] w fun e w' => e = .returned (.bool b) ∧ Since w w' := by
  have H1 := Lib.hid h1
  clear h1
  have H2 := Lib.hid h2
  clear h2
  have H_e1 := Lib.hid e1
  clear e1
  have H_e2 := Lib.hid e2
  clear e2
  have Hb := Lib.hid hb
  clear hb
  have HS0 := Lib.hid (Since.refl w)
  go_enter Try.func19, Try.ntmps19
  go_wp2
  go_loopw [13] (fun i wr => ∃ k : Nat, k ≤ n ∧ i = .int .i64 (k : Int) ∧ Hid (ss.take k = tt.take k) ∧ Hid (Since w wr)) (fun i _ => n - (intOf i).toNat)
  case atStart => exact ⟨0, by omega, rfl, Lib.hid rfl, HS0⟩
  case round =>
    obtain ⟨k, hk, rfl, HT, HS⟩ := hrel
    by_cases hlt : k < n
    · have hc1 := cell_since HS.out b1 (H_e1.out k hlt)
      have hc2 := cell_since HS.out b2 (H_e2.out k hlt)
      obtain ⟨p, hp⟩ : ∃ p, p = ss.getD k ⟨#[]⟩ := ⟨_, rfl⟩
      obtain ⟨q, hq⟩ : ∃ q, q = tt.getD k ⟨#[]⟩ := ⟨_, rfl⟩
      rw [← hp] at hc1
      rw [← hq] at hc2
      have hsn := take_eq_snoc ss tt k (by have := H1.out; omega) (by have := H2.out; omega) HT.out
      rw [← hp, ← hq] at hsn
      have hne : p ≠ q → ss ≠ tt := fun h h3 => h (by rw [hp, hq, h3])
      have Hp := Lib.hid hp
      clear hp
      have Hq := Lib.hid hq
      clear hq
      have Hsn := Lib.hid hsn
      clear hsn
      have Hne := Lib.hid hne
      clear hne
      by_cases hpq : p = q
      · subst hpq
        go_wp2_with fail
        go_quiet (fail)
        go_wp2_with fail
        go_roundw
        case rel => exact ⟨k + 1, by omega, by go_num, Lib.hid (Hsn.out trivial), Lib.hid (since_drewN HS.out _)⟩
        case measure => simp [intOf]; omega
      · have hb0 : b = false := by rw [Hb.out]; exact decide_eq_false (Hne.out hpq)
        subst hb0
        have hst := str_ne_t hpq
        go_wp2_with fail
        go_quiet (fail)
        go_wp2_with fail
        go_ret
        exact ⟨rfl, since_drewN HS.out _⟩
    · obtain rfl : k = n := by omega
      have hb0 : b = true := by
        have h8 := HT.out
        rw [List.take_of_length_le (by have := H1.out; omega), List.take_of_length_le (by have := H2.out; omega)] at h8
        rw [Hb.out]; exact decide_eq_true h8
      subst hb0
      go_wp2_with fail
      go_ret
      exact ⟨rfl, HS.out⟩

set_option maxRecDepth 100000 in
set_option maxHeartbeats 1000000 in
theorem equal_none (w : World) (A1 A2 : Option Addr) (c1 c2 : Nat) :
    Calls Try.prog 19 #[.slice A1 0 c1, .slice A2 0 c2] w fun e w' => e = .returned (.bool true) ∧ Since w w' := by
  have HS0 := Lib.hid (Since.refl w)
  go_enter Try.func19, Try.ntmps19
  go_wp2
  go_loop [13] (fun i => i = .int .i64 0) (fun _ => 0)
  case atStart => rfl
  case round =>
    obtain rfl := hrel
    go_wp2_with fail
    go_ret
    exact ⟨rfl, HS0.out⟩
set_option maxRecDepth 100000 in
set_option maxHeartbeats 1000000 in
theorem equal_lens (w : World) (A1 A2 : Option Addr) (n m c1 c2 : Nat) (h : n ≠ m) :
    Calls Try.prog 19 #[.slice A1 n c1, .slice A2 m c2] w fun e w' => e = .returned (.bool false) ∧ Since w w' := by
  have HS0 := Lib.hid (Since.refl w)
  have hb : ((n : Int) != (m : Int)) = true := by rw [bne_iff_ne]; omega
  have H := Lib.hid h
  clear h
  go_enter Try.func19, Try.ntmps19
  go_wp2
  go_ret
  exact ⟨rfl, HS0.out⟩
set_option maxRecDepth 100000 in
theorem equal_strs (w : World) (x y : Value) (ss tt : List ByteArray) (hx : StrsR w x ss) (hy : StrsR w y tt) (b : Bool) (hb : b = decide (ss = tt)) :
    Calls Try.prog 19 #[x, y] w fun e w' => e = .returned (.bool b) ∧ Since w w' := by
  obtain ⟨m1, A1, c1, rfl, h1⟩ := hx
  obtain ⟨m2, A2, c2, rfl, h2⟩ := hy
  unfold maxLen at m1
  by_cases hl : ss.length = tt.length
  · rw [← hl] at h2 ⊢
    rcases h1 with rfl | ⟨a1, rfl, b1, e1⟩
    · have ht : tt = [] := List.eq_nil_of_length_eq_zero hl.symm
      subst ht hb
      exact equal_none w A1 A2 c1 c2
    · rcases h2 with rfl | ⟨a2, rfl, b2, e2⟩
      · have hs : ss = [] := List.eq_nil_of_length_eq_zero hl
        subst hs hb
        exact equal_none w _ A2 c1 c2
      · exact equal_some w a1 a2 ss.length c1 c2 ss tt rfl hl m1 b1 b2 e1 e2 b hb
  · have hb0 : b = false := by rw [hb]; exact decide_eq_false (fun h => hl (by rw [h]))
    subst hb0
    exact equal_lens w A1 A2 _ _ c1 c2 hl

end Go.Proofs.Ytihpndfjcgodiaa
