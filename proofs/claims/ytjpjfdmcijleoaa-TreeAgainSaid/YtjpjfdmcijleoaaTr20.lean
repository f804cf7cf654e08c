/- Joined texts. -/
-- PACK: YtjpjfdmcijleoaaRefUtf YtjpjfdmcijleoaaWholeM YtjpjfdmcijleoaaWhole
import Derived.Test.YtjpjfdmcijleoaaTr19
import Derived.Test.YtjpjfdmcijleoaaTr3
import Derived.Test.YtjpjfdmcijleoaaTr2
import Derived.Laws.BitsAllLaws

/- The reference of strs.Utf: point, Utf. -/
namespace Go.Proofs.Ytjpjfdmcijleoaa
open Go.RowKit
namespace RefUtf
open Utf

theorem at_ent (s : ByteArray) (k : Nat) (h : k < s.size) : s[k].toNat = ent s.data.toList k := by
  unfold ent
  have h2 : k < s.data.toList.length := h
  rw [List.getD_eq_getElem?_getD, List.getElem?_eq_getElem h2]
  rfl
theorem fold_lt (l : List UInt8) (n : Nat) (hn : n < 32) (k : Nat) (hk : k ≤ 3) : fold l n k < 16777216 := by
  have h1 := Utf.ent_lt l 1; have h2 := Utf.ent_lt l 2; have h3 := Utf.ent_lt l 3
  match k, hk with
  | 0, _ => show n < _; omega
  | 1, _ => rw [fold1]; omega
  | 2, _ => rw [fold2]; omega
  | 3, _ => rw [fold3]; omega
set_option maxRecDepth 100000 in
set_option maxHeartbeats 2000000 in
theorem point_1 (s : ByteArray) (h0 : 0 < s.size) (hm : s.size ≤ 1000000) (b : Nat) (hb : b = s[0].toNat) (h1 : 192 ≤ b) (h2 : b < 224) (x : Nat) (hx : x = ptG s.data.toList (b - 192) 1 128) : Ret 79 #[.string s] (.int .i64 (x : Int)) := by
  intro w
  obtain ⟨l, hl⟩ : ∃ l, l = s.data.toList := ⟨_, rfl⟩
  rw [← hl] at hx
  have hlen : l.length = s.size := by rw [hl]; rfl
  obtain ⟨n0, hn0⟩ : ∃ n0, n0 = b - 192 := ⟨_, rfl⟩
  rw [← hn0] at hx
  have hi : ((b : Nat) : Int) - 192 = (n0 : Int) := by omega
  have hn9 : n0 < 32 := by omega
  (have t1 : decide ((b : Int) < 128) = false := decide_eq_false (by omega); have t2 : decide ((192 : Int) ≤ (b : Int)) = true := decide_eq_true (by omega); have t3 : decide ((b : Int) < 224) = true := decide_eq_true (by omega); have t4 : decide ((224 : Int) ≤ (b : Int)) = false := decide_eq_false (by omega); have t5 : decide ((b : Int) < 240) = true := decide_eq_true (by omega); have t6 : decide ((240 : Int) ≤ (b : Int)) = false := decide_eq_false (by omega); have t7 : decide ((b : Int) < 248) = true := decide_eq_true (by omega))
  rw [hb] at hi t1 t2 t3 t4 t5 t6 t7
  have HB := Lib.hid hb
  have HI := Lib.hid hn0
  clear hb hn0 h1 h2
  have HX := Lib.hid hx
  unfold ptG at hx
  by_cases hs : l.length ≤ 1
  · rw [if_pos hs] at hx
    subst hx
    have t8 : decide ((s.size : Int) ≤ 1) = true := decide_eq_true (by omega)
    clear hs hl
    go_enter Try.func79, Try.ntmps79
    go_wp2_with fail
    go_ret
    exact ⟨rfl, rfl⟩
  · rw [if_neg hs] at hx
    have t8 : decide ((s.size : Int) ≤ 1) = false := decide_eq_false (by omega)
    have HL := Lib.hid hl
    have HX2 := Lib.hid hx
    clear hx hl
    go_enter Try.func79, Try.ntmps79
    go_wp2_with fail
    go_loop [4, 7] (fun n i => ∃ k : Nat, k ≤ 1 ∧ i = .int .i64 ((k + 1 : Nat) : Int) ∧ n = .int .i64 ((fold l n0 k : Nat) : Int) ∧ Hid (∀ i, i < k → cont (ent l (i + 1)))) (fun _ i => 5 - (intOf i).toNat)
    case atStart => exact ⟨0, by omega, rfl, rfl, Lib.hid (fun i hi => absurd hi (Nat.not_lt_zero i))⟩
    case round =>
      clear t1 t2 t3 t4 t5 t6 t7 t8
      obtain ⟨k, hk, rfl, rfl, HC⟩ := hrel
      have hF9 := fold_lt l n0 hn9 k (by omega)
      by_cases hlt : k < 1
      · obtain ⟨F, hF⟩ : ∃ F, F = fold l n0 k := ⟨_, rfl⟩
        rw [← hF] at hF9 ⊢
        have hk2 : k + 1 < s.size := by omega
        have hce : s[k + 1].toNat = ent l (k + 1) := by rw [HL.out]; exact at_ent s (k + 1) hk2
        have hc9 := s[k + 1].toNat_lt
        by_cases hc : cont (ent l (k + 1))
        · have HC2 : Hid (∀ i, i < k + 1 → cont (ent l (i + 1))) := Lib.hid (fun i hi => by
            by_cases h : i < k
            · exact HC.out i h
            · obtain rfl : i = k := by omega
              exact hc)
          have e2 : fold l n0 (k + 1) = 64 * F + (s[k + 1].toNat - 128) := by rw [hce, hF]; rfl
          unfold cont at hc
          have a1 : decide ((s[k + 1].toNat : Int) < 128) = false := decide_eq_false (by omega)
          have a2 : decide ((191 : Int) < (s[k + 1].toNat : Int)) = false := decide_eq_false (by omega)
          have hcc : 128 ≤ s[k + 1].toNat := by omega
          have E2 := Lib.hid e2
          clear hc hce hF e2
          go_wp2_with fail
          go_round
          case rel => exact ⟨k + 1, by omega, by go_num, by rw [E2.out]; go_num, HC2⟩
          case measure => simp [intOf]; omega
        · obtain rfl : x = 0 := by
            have h9 := HX2.out
            rw [if_pos (show ¬ (∀ i, i < 1 → cont (ent l (i + 1))) from fun h => hc (h k hlt))] at h9
            exact h9
          unfold cont at hc
          by_cases a : s[k + 1].toNat < 128
          · have a1 : decide ((s[k + 1].toNat : Int) < 128) = true := decide_eq_true (by omega)
            clear hc hce hF a
            go_wp2_with fail
            go_ret
            exact ⟨rfl, rfl⟩
          · have a1 : decide ((s[k + 1].toNat : Int) < 128) = false := decide_eq_false (by omega)
            have a2 : decide ((191 : Int) < (s[k + 1].toNat : Int)) = true := decide_eq_true (by omega)
            clear hc hce hF a
            go_wp2_with fail
            go_ret
            exact ⟨rfl, rfl⟩
      · obtain rfl : k = 1 := by omega
        have h9 := HX2.out
        rw [if_neg (show ¬ ¬ (∀ i, i < 1 → cont (ent l (i + 1))) from fun h => h HC.out)] at h9
        generalize fold l n0 1 = F at h9 hF9 ⊢
        by_cases a1 : F < 128
        · rw [if_pos (Or.inl a1)] at h9
          subst h9
          have t1 : decide ((F : Int) < 128) = true := decide_eq_true (by omega)
          go_wp2_with fail
          go_ret
          exact ⟨rfl, rfl⟩
        have t1 : decide ((F : Int) < 128) = false := decide_eq_false (by omega)
        by_cases a2 : 1114111 < F
        · rw [if_pos (Or.inr (Or.inl a2))] at h9
          subst h9
          have t2 : decide ((1114111 : Int) < (F : Int)) = true := decide_eq_true (by omega)
          go_wp2_with fail
          go_ret
          exact ⟨rfl, rfl⟩
        have t2 : decide ((1114111 : Int) < (F : Int)) = false := decide_eq_false (by omega)
        by_cases a3 : 55295 < F
        · have t3 : decide ((55295 : Int) < (F : Int)) = true := decide_eq_true (by omega)
          by_cases a4 : F < 57344
          · rw [if_pos (Or.inr (Or.inr ⟨a3, a4⟩))] at h9
            subst h9
            have t4 : decide ((F : Int) < 57344) = true := decide_eq_true (by omega)
            go_wp2_with fail
            go_ret
            exact ⟨rfl, rfl⟩
          · rw [if_neg (by omega)] at h9
            subst h9
            have t4 : decide ((F : Int) < 57344) = false := decide_eq_false (by omega)
            go_wp2_with fail
            go_ret
            exact ⟨rfl, rfl⟩
        · rw [if_neg (by omega)] at h9
          subst h9
          have t3 : decide ((55295 : Int) < (F : Int)) = false := decide_eq_false (by omega)
          go_wp2_with fail
          go_ret
          exact ⟨rfl, rfl⟩
set_option maxRecDepth 100000 in
set_option maxHeartbeats 2000000 in
theorem point_2 (s : ByteArray) (h0 : 0 < s.size) (hm : s.size ≤ 1000000) (b : Nat) (hb : b = s[0].toNat) (h1 : 224 ≤ b) (h2 : b < 240) (x : Nat) (hx : x = ptG s.data.toList (b - 224) 2 2048) : Ret 79 #[.string s] (.int .i64 (x : Int)) := by
  intro w
  obtain ⟨l, hl⟩ : ∃ l, l = s.data.toList := ⟨_, rfl⟩
  rw [← hl] at hx
  have hlen : l.length = s.size := by rw [hl]; rfl
  obtain ⟨n0, hn0⟩ : ∃ n0, n0 = b - 224 := ⟨_, rfl⟩
  rw [← hn0] at hx
  have hi : ((b : Nat) : Int) - 224 = (n0 : Int) := by omega
  have hn9 : n0 < 32 := by omega
  (have t1 : decide ((b : Int) < 128) = false := decide_eq_false (by omega); have t2 : decide ((192 : Int) ≤ (b : Int)) = true := decide_eq_true (by omega); have t3 : decide ((b : Int) < 224) = false := decide_eq_false (by omega); have t4 : decide ((224 : Int) ≤ (b : Int)) = true := decide_eq_true (by omega); have t5 : decide ((b : Int) < 240) = true := decide_eq_true (by omega); have t6 : decide ((240 : Int) ≤ (b : Int)) = false := decide_eq_false (by omega); have t7 : decide ((b : Int) < 248) = true := decide_eq_true (by omega))
  rw [hb] at hi t1 t2 t3 t4 t5 t6 t7
  have HB := Lib.hid hb
  have HI := Lib.hid hn0
  clear hb hn0 h1 h2
  have HX := Lib.hid hx
  unfold ptG at hx
  by_cases hs : l.length ≤ 2
  · rw [if_pos hs] at hx
    subst hx
    have t8 : decide ((s.size : Int) ≤ 2) = true := decide_eq_true (by omega)
    clear hs hl
    go_enter Try.func79, Try.ntmps79
    go_wp2_with fail
    go_ret
    exact ⟨rfl, rfl⟩
  · rw [if_neg hs] at hx
    have t8 : decide ((s.size : Int) ≤ 2) = false := decide_eq_false (by omega)
    have HL := Lib.hid hl
    have HX2 := Lib.hid hx
    clear hx hl
    go_enter Try.func79, Try.ntmps79
    go_wp2_with fail
    go_loop [4, 7] (fun n i => ∃ k : Nat, k ≤ 2 ∧ i = .int .i64 ((k + 1 : Nat) : Int) ∧ n = .int .i64 ((fold l n0 k : Nat) : Int) ∧ Hid (∀ i, i < k → cont (ent l (i + 1)))) (fun _ i => 5 - (intOf i).toNat)
    case atStart => exact ⟨0, by omega, rfl, rfl, Lib.hid (fun i hi => absurd hi (Nat.not_lt_zero i))⟩
    case round =>
      clear t1 t2 t3 t4 t5 t6 t7 t8
      obtain ⟨k, hk, rfl, rfl, HC⟩ := hrel
      have hF9 := fold_lt l n0 hn9 k (by omega)
      by_cases hlt : k < 2
      · obtain ⟨F, hF⟩ : ∃ F, F = fold l n0 k := ⟨_, rfl⟩
        rw [← hF] at hF9 ⊢
        have hk2 : k + 1 < s.size := by omega
        have hce : s[k + 1].toNat = ent l (k + 1) := by rw [HL.out]; exact at_ent s (k + 1) hk2
        have hc9 := s[k + 1].toNat_lt
        by_cases hc : cont (ent l (k + 1))
        · have HC2 : Hid (∀ i, i < k + 1 → cont (ent l (i + 1))) := Lib.hid (fun i hi => by
            by_cases h : i < k
            · exact HC.out i h
            · obtain rfl : i = k := by omega
              exact hc)
          have e2 : fold l n0 (k + 1) = 64 * F + (s[k + 1].toNat - 128) := by rw [hce, hF]; rfl
          unfold cont at hc
          have a1 : decide ((s[k + 1].toNat : Int) < 128) = false := decide_eq_false (by omega)
          have a2 : decide ((191 : Int) < (s[k + 1].toNat : Int)) = false := decide_eq_false (by omega)
          have hcc : 128 ≤ s[k + 1].toNat := by omega
          have E2 := Lib.hid e2
          clear hc hce hF e2
          go_wp2_with fail
          go_round
          case rel => exact ⟨k + 1, by omega, by go_num, by rw [E2.out]; go_num, HC2⟩
          case measure => simp [intOf]; omega
        · obtain rfl : x = 0 := by
            have h9 := HX2.out
            rw [if_pos (show ¬ (∀ i, i < 2 → cont (ent l (i + 1))) from fun h => hc (h k hlt))] at h9
            exact h9
          unfold cont at hc
          by_cases a : s[k + 1].toNat < 128
          · have a1 : decide ((s[k + 1].toNat : Int) < 128) = true := decide_eq_true (by omega)
            clear hc hce hF a
            go_wp2_with fail
            go_ret
            exact ⟨rfl, rfl⟩
          · have a1 : decide ((s[k + 1].toNat : Int) < 128) = false := decide_eq_false (by omega)
            have a2 : decide ((191 : Int) < (s[k + 1].toNat : Int)) = true := decide_eq_true (by omega)
            clear hc hce hF a
            go_wp2_with fail
            go_ret
            exact ⟨rfl, rfl⟩
      · obtain rfl : k = 2 := by omega
        have h9 := HX2.out
        rw [if_neg (show ¬ ¬ (∀ i, i < 2 → cont (ent l (i + 1))) from fun h => h HC.out)] at h9
        generalize fold l n0 2 = F at h9 hF9 ⊢
        by_cases a1 : F < 2048
        · rw [if_pos (Or.inl a1)] at h9
          subst h9
          have t1 : decide ((F : Int) < 2048) = true := decide_eq_true (by omega)
          go_wp2_with fail
          go_ret
          exact ⟨rfl, rfl⟩
        have t1 : decide ((F : Int) < 2048) = false := decide_eq_false (by omega)
        by_cases a2 : 1114111 < F
        · rw [if_pos (Or.inr (Or.inl a2))] at h9
          subst h9
          have t2 : decide ((1114111 : Int) < (F : Int)) = true := decide_eq_true (by omega)
          go_wp2_with fail
          go_ret
          exact ⟨rfl, rfl⟩
        have t2 : decide ((1114111 : Int) < (F : Int)) = false := decide_eq_false (by omega)
        by_cases a3 : 55295 < F
        · have t3 : decide ((55295 : Int) < (F : Int)) = true := decide_eq_true (by omega)
          by_cases a4 : F < 57344
          · rw [if_pos (Or.inr (Or.inr ⟨a3, a4⟩))] at h9
            subst h9
            have t4 : decide ((F : Int) < 57344) = true := decide_eq_true (by omega)
            go_wp2_with fail
            go_ret
            exact ⟨rfl, rfl⟩
          · rw [if_neg (by omega)] at h9
            subst h9
            have t4 : decide ((F : Int) < 57344) = false := decide_eq_false (by omega)
            go_wp2_with fail
            go_ret
            exact ⟨rfl, rfl⟩
        · rw [if_neg (by omega)] at h9
          subst h9
          have t3 : decide ((55295 : Int) < (F : Int)) = false := decide_eq_false (by omega)
          go_wp2_with fail
          go_ret
          exact ⟨rfl, rfl⟩
set_option maxRecDepth 100000 in
set_option maxHeartbeats 2000000 in
theorem point_3 (s : ByteArray) (h0 : 0 < s.size) (hm : s.size ≤ 1000000) (b : Nat) (hb : b = s[0].toNat) (h1 : 240 ≤ b) (h2 : b < 248) (x : Nat) (hx : x = ptG s.data.toList (b - 240) 3 65536) : Ret 79 #[.string s] (.int .i64 (x : Int)) := by
  intro w
  obtain ⟨l, hl⟩ : ∃ l, l = s.data.toList := ⟨_, rfl⟩
  rw [← hl] at hx
  have hlen : l.length = s.size := by rw [hl]; rfl
  obtain ⟨n0, hn0⟩ : ∃ n0, n0 = b - 240 := ⟨_, rfl⟩
  rw [← hn0] at hx
  have hi : ((b : Nat) : Int) - 240 = (n0 : Int) := by omega
  have hn9 : n0 < 32 := by omega
  (have t1 : decide ((b : Int) < 128) = false := decide_eq_false (by omega); have t2 : decide ((192 : Int) ≤ (b : Int)) = true := decide_eq_true (by omega); have t3 : decide ((b : Int) < 224) = false := decide_eq_false (by omega); have t4 : decide ((224 : Int) ≤ (b : Int)) = true := decide_eq_true (by omega); have t5 : decide ((b : Int) < 240) = false := decide_eq_false (by omega); have t6 : decide ((240 : Int) ≤ (b : Int)) = true := decide_eq_true (by omega); have t7 : decide ((b : Int) < 248) = true := decide_eq_true (by omega))
  rw [hb] at hi t1 t2 t3 t4 t5 t6 t7
  have HB := Lib.hid hb
  have HI := Lib.hid hn0
  clear hb hn0 h1 h2
  have HX := Lib.hid hx
  unfold ptG at hx
  by_cases hs : l.length ≤ 3
  · rw [if_pos hs] at hx
    subst hx
    have t8 : decide ((s.size : Int) ≤ 3) = true := decide_eq_true (by omega)
    clear hs hl
    go_enter Try.func79, Try.ntmps79
    go_wp2_with fail
    go_ret
    exact ⟨rfl, rfl⟩
  · rw [if_neg hs] at hx
    have t8 : decide ((s.size : Int) ≤ 3) = false := decide_eq_false (by omega)
    have HL := Lib.hid hl
    have HX2 := Lib.hid hx
    clear hx hl
    go_enter Try.func79, Try.ntmps79
    go_wp2_with fail
    go_loop [4, 7] (fun n i => ∃ k : Nat, k ≤ 3 ∧ i = .int .i64 ((k + 1 : Nat) : Int) ∧ n = .int .i64 ((fold l n0 k : Nat) : Int) ∧ Hid (∀ i, i < k → cont (ent l (i + 1)))) (fun _ i => 5 - (intOf i).toNat)
    case atStart => exact ⟨0, by omega, rfl, rfl, Lib.hid (fun i hi => absurd hi (Nat.not_lt_zero i))⟩
    case round =>
      clear t1 t2 t3 t4 t5 t6 t7 t8
      obtain ⟨k, hk, rfl, rfl, HC⟩ := hrel
      have hF9 := fold_lt l n0 hn9 k (by omega)
      by_cases hlt : k < 3
      · obtain ⟨F, hF⟩ : ∃ F, F = fold l n0 k := ⟨_, rfl⟩
        rw [← hF] at hF9 ⊢
        have hk2 : k + 1 < s.size := by omega
        have hce : s[k + 1].toNat = ent l (k + 1) := by rw [HL.out]; exact at_ent s (k + 1) hk2
        have hc9 := s[k + 1].toNat_lt
        by_cases hc : cont (ent l (k + 1))
        · have HC2 : Hid (∀ i, i < k + 1 → cont (ent l (i + 1))) := Lib.hid (fun i hi => by
            by_cases h : i < k
            · exact HC.out i h
            · obtain rfl : i = k := by omega
              exact hc)
          have e2 : fold l n0 (k + 1) = 64 * F + (s[k + 1].toNat - 128) := by rw [hce, hF]; rfl
          unfold cont at hc
          have a1 : decide ((s[k + 1].toNat : Int) < 128) = false := decide_eq_false (by omega)
          have a2 : decide ((191 : Int) < (s[k + 1].toNat : Int)) = false := decide_eq_false (by omega)
          have hcc : 128 ≤ s[k + 1].toNat := by omega
          have E2 := Lib.hid e2
          clear hc hce hF e2
          go_wp2_with fail
          go_round
          case rel => exact ⟨k + 1, by omega, by go_num, by rw [E2.out]; go_num, HC2⟩
          case measure => simp [intOf]; omega
        · obtain rfl : x = 0 := by
            have h9 := HX2.out
            rw [if_pos (show ¬ (∀ i, i < 3 → cont (ent l (i + 1))) from fun h => hc (h k hlt))] at h9
            exact h9
          unfold cont at hc
          by_cases a : s[k + 1].toNat < 128
          · have a1 : decide ((s[k + 1].toNat : Int) < 128) = true := decide_eq_true (by omega)
            clear hc hce hF a
            go_wp2_with fail
            go_ret
            exact ⟨rfl, rfl⟩
          · have a1 : decide ((s[k + 1].toNat : Int) < 128) = false := decide_eq_false (by omega)
            have a2 : decide ((191 : Int) < (s[k + 1].toNat : Int)) = true := decide_eq_true (by omega)
            clear hc hce hF a
            go_wp2_with fail
            go_ret
            exact ⟨rfl, rfl⟩
      · obtain rfl : k = 3 := by omega
        have h9 := HX2.out
        rw [if_neg (show ¬ ¬ (∀ i, i < 3 → cont (ent l (i + 1))) from fun h => h HC.out)] at h9
        generalize fold l n0 3 = F at h9 hF9 ⊢
        by_cases a1 : F < 65536
        · rw [if_pos (Or.inl a1)] at h9
          subst h9
          have t1 : decide ((F : Int) < 65536) = true := decide_eq_true (by omega)
          go_wp2_with fail
          go_ret
          exact ⟨rfl, rfl⟩
        have t1 : decide ((F : Int) < 65536) = false := decide_eq_false (by omega)
        by_cases a2 : 1114111 < F
        · rw [if_pos (Or.inr (Or.inl a2))] at h9
          subst h9
          have t2 : decide ((1114111 : Int) < (F : Int)) = true := decide_eq_true (by omega)
          go_wp2_with fail
          go_ret
          exact ⟨rfl, rfl⟩
        have t2 : decide ((1114111 : Int) < (F : Int)) = false := decide_eq_false (by omega)
        by_cases a3 : 55295 < F
        · have t3 : decide ((55295 : Int) < (F : Int)) = true := decide_eq_true (by omega)
          by_cases a4 : F < 57344
          · rw [if_pos (Or.inr (Or.inr ⟨a3, a4⟩))] at h9
            subst h9
            have t4 : decide ((F : Int) < 57344) = true := decide_eq_true (by omega)
            go_wp2_with fail
            go_ret
            exact ⟨rfl, rfl⟩
          · rw [if_neg (by omega)] at h9
            subst h9
            have t4 : decide ((F : Int) < 57344) = false := decide_eq_false (by omega)
            go_wp2_with fail
            go_ret
            exact ⟨rfl, rfl⟩
        · rw [if_neg (by omega)] at h9
          subst h9
          have t3 : decide ((55295 : Int) < (F : Int)) = false := decide_eq_false (by omega)
          go_wp2_with fail
          go_ret
          exact ⟨rfl, rfl⟩
set_option maxRecDepth 100000 in
theorem point_low (s : ByteArray) (h0 : 0 < s.size) (hb : s[0].toNat < 128) : Ret 79 #[.string s] (.int .i64 1) := by
  intro w
  have hc9 : s[0].toNat < 256 := s[0].toNat_lt
  have t1 : decide ((s[0].toNat : Int) < 128) = true := decide_eq_true (by omega)
  clear hb
  go_enter Try.func79, Try.ntmps79
  go_wp2_with fail
  go_ret
  exact ⟨rfl, rfl⟩
set_option maxRecDepth 100000 in
theorem point_mid (s : ByteArray) (h0 : 0 < s.size) (h1 : 128 ≤ s[0].toNat) (hb : s[0].toNat < 192) : Ret 79 #[.string s] (.int .i64 0) := by
  intro w
  have hc9 : s[0].toNat < 256 := s[0].toNat_lt
  have t1 : decide ((s[0].toNat : Int) < 128) = false := decide_eq_false (by omega)
  have t2 : decide ((192 : Int) ≤ (s[0].toNat : Int)) = false := decide_eq_false (by omega)
  have t4 : decide ((224 : Int) ≤ (s[0].toNat : Int)) = false := decide_eq_false (by omega)
  have t6 : decide ((240 : Int) ≤ (s[0].toNat : Int)) = false := decide_eq_false (by omega)
  clear hb h1
  go_enter Try.func79, Try.ntmps79
  go_wp2_with fail
  go_ret
  exact ⟨rfl, rfl⟩
set_option maxRecDepth 100000 in
theorem point_top (s : ByteArray) (h0 : 0 < s.size) (h1 : 248 ≤ s[0].toNat) : Ret 79 #[.string s] (.int .i64 0) := by
  intro w
  have hc9 : s[0].toNat < 256 := s[0].toNat_lt
  have t1 : decide ((s[0].toNat : Int) < 128) = false := decide_eq_false (by omega)
  have t2 : decide ((192 : Int) ≤ (s[0].toNat : Int)) = true := decide_eq_true (by omega)
  have t3 : decide ((s[0].toNat : Int) < 224) = false := decide_eq_false (by omega)
  have t4 : decide ((224 : Int) ≤ (s[0].toNat : Int)) = true := decide_eq_true (by omega)
  have t5 : decide ((s[0].toNat : Int) < 240) = false := decide_eq_false (by omega)
  have t6 : decide ((240 : Int) ≤ (s[0].toNat : Int)) = true := decide_eq_true (by omega)
  have t7 : decide ((s[0].toNat : Int) < 248) = false := decide_eq_false (by omega)
  clear h1
  go_enter Try.func79, Try.ntmps79
  go_wp2_with fail
  go_ret
  exact ⟨rfl, rfl⟩
theorem point_ret (s : ByteArray) (h0 : 0 < s.size) (hm : s.size ≤ 1000000) (x : Nat) (hx : x = ptL s.data.toList) : Ret 79 #[.string s] (.int .i64 (x : Int)) := by
  have e := at_ent s 0 h0
  have h8 := s[0].toNat_lt
  unfold ptL at hx
  rw [← e] at hx
  by_cases a0 : s[0].toNat < 128
  · rw [if_pos a0] at hx
    subst hx
    exact point_low s h0 a0
  rw [if_neg a0] at hx
  by_cases a1 : 192 ≤ s[0].toNat ∧ s[0].toNat < 224
  · rw [if_pos a1] at hx
    exact point_1 s h0 hm _ rfl a1.1 a1.2 x hx
  rw [if_neg a1] at hx
  by_cases a2 : 224 ≤ s[0].toNat ∧ s[0].toNat < 240
  · rw [if_pos a2] at hx
    exact point_2 s h0 hm _ rfl a2.1 a2.2 x hx
  rw [if_neg a2] at hx
  by_cases a3 : 240 ≤ s[0].toNat ∧ s[0].toNat < 248
  · rw [if_pos a3] at hx
    exact point_3 s h0 hm _ rfl a3.1 a3.2 x hx
  rw [if_neg a3] at hx
  subst hx
  by_cases a4 : s[0].toNat < 192
  · exact point_mid s h0 (by omega) a4
  · exact point_top s h0 (by omega)
set_option maxRecDepth 100000 in
set_option maxHeartbeats 1000000 in
theorem utf_ret (s : ByteArray) (hm : s.size ≤ 1000000) (q : Bool) (hq : q = utfB s.data.toList) : Ret 66 #[.string s] (.bool q) := by
  intro w
  have HQ := Lib.hid hq
  clear hq
  go_enter Try.func66, Try.ntmps66
  go_wp2_with fail
  go_loop [0] (fun v => ∃ (R : ByteArray), v = .string R ∧ R.size ≤ s.size ∧ Hid (q = utfB R.data.toList)) (fun v => match v with | .string r => r.size | _ => 0)
  case atStart => exact ⟨s, rfl, Nat.le_refl _, HQ⟩
  case round =>
    clear HQ
    obtain ⟨R, rfl, hR, HQ⟩ := hrel
    have hlen : R.data.toList.length = R.size := rfl
    by_cases h0 : 0 < R.size
    · obtain ⟨x, hx⟩ : ∃ x, x = ptL R.data.toList := ⟨_, rfl⟩
      have c1 := point_ret R h0 (by omega) x hx
      by_cases hz : x = 0
      · subst hz
        obtain rfl : q = false := by rw [HQ.out]; exact utfB_bad _ (by omega) hx.symm
        clear hx
        go_wp2_with fail
        refine c1.calls ?_
        go_wp2_with fail
        go_ret
        exact ⟨rfl, rfl⟩
      · have hle : x ≤ R.size := by
          have : ptL R.data.toList ≤ R.data.toList.length := by
            cases hl : R.data.toList with
            | nil => rw [hl] at hlen; simp at hlen; omega
            | cons a t => exact pt_len a t
          omega
        obtain ⟨R2, hR2⟩ : ∃ R2, R2 = R.extract x R.size := ⟨_, rfl⟩
        have hR2s : R2.size = R.size - x := by rw [hR2, ByteArray.size_extract]; omega
        have HQ2 : Hid (q = utfB R2.data.toList) := Lib.hid (by
          rw [HQ.out, utfB_step _ (by omega) (by rw [← hx]; exact hz), ← hx, hR2, ext_list, List.take_of_length_le (by rw [List.length_drop]; omega)])
        have hR2' := hR2.symm
        have t1 : ((x : Int) == 0) = false := by rw [beq_eq_false_iff_ne]; omega
        clear hx hR2
        go_wp2_with fail
        refine c1.calls ?_
        go_wp2_with fail
        go_round
        case rel => exact ⟨R2, rfl, by omega, HQ2⟩
        case measure => simp; omega
    · obtain rfl : q = true := by rw [HQ.out, List.eq_nil_of_length_eq_zero (show R.data.toList.length = 0 by omega)]; rfl
      go_wp2_with fail
      go_ret
      exact ⟨rfl, rfl⟩
end RefUtf
end Go.Proofs.Ytjpjfdmcijleoaa

/- Whole numbers as bytes: plain mathematics. -/
namespace Go.Proofs.Ytjpjfdmcijleoaa
open Go.RowKit
namespace Whole
open RefOct (low low_len)
open Oct (numN trimL)

def rightL : List UInt8 → Bool
  | [] => false
  | [_] => true
  | a :: b :: _ => !(decide (a.toNat = 0) && decide (b.toNat < 128)) && !(decide (a.toNat = 255) && decide (128 ≤ b.toNat))
/-- the number of k bytes, the first of which bears the sign -/
def sg (l : List UInt8) (k : Nat) : Int := (numN (l.take k) : Int) - if 128 ≤ (l.getD 0 0).toNat then 256 ^ k else 0
def sgn (l : List UInt8) : Int := sg l l.length
theorem sg_zero (l : List UInt8) : sg l 0 = if 128 ≤ (l.getD 0 0).toNat then -1 else 0 := by unfold sg; split <;> simp [numN]
theorem sg_succ (l : List UInt8) (k : Nat) (x : UInt8) (h : l[k]? = some x) : sg l (k + 1) = 256 * sg l k + (x.toNat : Int) := by
  have hk : k < l.length := (List.getElem?_eq_some_iff.1 h).1
  have hx : l[k] = x := (List.getElem?_eq_some_iff.1 h).2
  unfold sg
  rw [List.take_succ_eq_append_getElem hk, hx, Oct.numN_snoc]
  split
  · rw [Int.pow_succ]; omega
  · omega
theorem sg_one (l : List UInt8) (x : UInt8) (h : l[0]? = some x) : sg l 1 = if 128 ≤ x.toNat then (x.toNat : Int) - 256 else (x.toNat : Int) := by
  rw [sg_succ l 0 x h, sg_zero, show l.getD 0 0 = x from by unfold List.getD; rw [h]; rfl]
  split <;> omega
theorem sg_bd (l : List UInt8) (k : Nat) (h : k < l.length) : -(128 * 256 ^ k : Int) ≤ sg l (k + 1) ∧ sg l (k + 1) < 128 * 256 ^ k := by
  induction k with
  | zero =>
    have hx : l[0]? = some l[0] := List.getElem?_eq_getElem h
    have hb := l[0].toNat_lt
    rw [sg_one l _ hx]
    split <;> omega
  | succ k ih =>
    obtain ⟨h1, h2⟩ := ih (by omega)
    have hx : l[k + 1]? = some l[k + 1] := List.getElem?_eq_getElem h
    have hb := l[k + 1].toNat_lt
    rw [sg_succ l (k + 1) _ hx, Int.pow_succ]
    generalize (256 : Int) ^ k = P at *
    omega
theorem sg_small (l : List UInt8) (k : Nat) (h : k < l.length) (h7 : k ≤ 7) : -36028797018963968 ≤ sg l k ∧ sg l k ≤ 36028797018963967 := by
  cases k with
  | zero => rw [sg_zero]; split <;> omega
  | succ k =>
    obtain ⟨h1, h2⟩ := sg_bd l k (by omega)
    have h3 : (256 : Int) ^ k ≤ 256 ^ 6 := by
      have h4 : (256 : Nat) ^ k ≤ 256 ^ 6 := Nat.pow_le_pow_right (by decide) (by omega)
      have h5 : ((256 ^ k : Nat) : Int) ≤ ((256 ^ 6 : Nat) : Int) := by omega
      simpa using h5
    have h6 : (256 : Int) ^ 6 = 281474976710656 := by decide
    omega

/-- n fits into k bytes -/
def fits (n : Int) (k : Nat) : Prop := -(128 * 256 ^ (k - 1) : Int) ≤ n ∧ n < 128 * 256 ^ (k - 1)
/-- how many bytes a number takes -/
def wid (n : Int) : Nat := if -128 ≤ n ∧ n < 128 then 1 else if -32768 ≤ n ∧ n < 32768 then 2 else if -8388608 ≤ n ∧ n < 8388608 then 3 else if -2147483648 ≤ n ∧ n < 2147483648 then 4 else if -549755813888 ≤ n ∧ n < 549755813888 then 5
  else if -140737488355328 ≤ n ∧ n < 140737488355328 then 6 else if -36028797018963968 ≤ n ∧ n < 36028797018963968 then 7 else 8
theorem wid_bd (n : Int) : 1 ≤ wid n ∧ wid n ≤ 8 := by unfold wid; constructor <;> (repeat' split) <;> omega
theorem low_at (u : Int) (k : Nat) : low u (k + 1) = UInt8.ofNat (u / 2 ^ (8 * k) % 256).toNat :: low u k := rfl
theorem byte_at (u : Int) (k : Nat) : ((UInt8.ofNat (u / 2 ^ (8 * k) % 256).toNat).toNat : Int) = u / 2 ^ (8 * k) % 256 := by
  have h1 : 0 ≤ u / 2 ^ (8 * k) % 256 := Int.emod_nonneg _ (by decide)
  have h2 : u / 2 ^ (8 * k) % 256 < 256 := Int.emod_lt_of_pos _ (by decide)
  rw [UInt8.toNat_ofNat']
  omega

theorem right_wide (n u : Int) (hu : u = n % 18446744073709551616) (h1 : -9223372036854775808 ≤ n) (h2 : n ≤ 9223372036854775807) (j : Nat) (hj : 2 ≤ j) (hj8 : j ≤ 8) (hw : wid n ≤ j) : rightL (low u j) = false ↔ wid n < j := by
  obtain ⟨k, rfl⟩ : ∃ k, j = k + 2 := ⟨j - 2, by omega⟩
  rw [low_at, low_at]
  have b1 := byte_at u (k + 1)
  have b2 := byte_at u k
  show (!(decide ((UInt8.ofNat (u / 2 ^ (8 * (k + 1)) % 256).toNat).toNat = 0) && decide ((UInt8.ofNat (u / 2 ^ (8 * k) % 256).toNat).toNat < 128)) && !(decide ((UInt8.ofNat (u / 2 ^ (8 * (k + 1)) % 256).toNat).toNat = 255) && decide (128 ≤ (UInt8.ofNat (u / 2 ^ (8 * k) % 256).toNat).toNat))) = false ↔ _
  generalize (UInt8.ofNat (u / 2 ^ (8 * (k + 1)) % 256).toNat).toNat = A at *
  generalize (UInt8.ofNat (u / 2 ^ (8 * k) % 256).toNat).toNat = B at *
  have key : (!(decide (A = 0) && decide (B < 128)) && !(decide (A = 255) && decide (128 ≤ B))) = false ↔ (A = 0 ∧ B < 128) ∨ (A = 255 ∧ 128 ≤ B) := by
    by_cases c1 : A = 0 <;> by_cases c2 : B < 128 <;> by_cases c3 : A = 255 <;> by_cases c4 : 128 ≤ B <;> simp [c1, c2, c3, c4] <;> omega
  rw [key]
  rcases (show k = 0 ∨ k = 1 ∨ k = 2 ∨ k = 3 ∨ k = 4 ∨ k = 5 ∨ k = 6 by omega) with rfl | rfl | rfl | rfl | rfl | rfl | rfl <;>
  · simp only [Nat.zero_add, Nat.reduceAdd, Nat.reduceMul, Nat.mul_zero, Int.reducePow, Int.pow_zero, Int.ediv_one] at b1 b2
    unfold wid at hw ⊢
    repeat' split at hw
    all_goals first | (exfalso; omega) | skip
    all_goals simp only [*, if_true, if_false, and_self]
    all_goals omega
theorem eight {P : Nat → Prop} (j : Nat) (hj : 1 ≤ j) (hj8 : j ≤ 8) (h1 : P 1) (h2 : P 2) (h3 : P 3) (h4 : P 4) (h5 : P 5) (h6 : P 6) (h7 : P 7) (h8 : P 8) : P j := by
  rcases (show j = 1 ∨ j = 2 ∨ j = 3 ∨ j = 4 ∨ j = 5 ∨ j = 6 ∨ j = 7 ∨ j = 8 by omega) with rfl | rfl | rfl | rfl | rfl | rfl | rfl | rfl <;> assumption
theorem wid_le (n : Int) (j : Nat) (hj : 1 ≤ j) (hj8 : j ≤ 8) (hr : -9223372036854775808 ≤ n ∧ n ≤ 9223372036854775807) : wid n ≤ j ↔ fits n j := by
  refine eight (P := fun j => wid n ≤ j ↔ fits n j) j hj hj8 ?_ ?_ ?_ ?_ ?_ ?_ ?_ ?_ <;>
  · unfold fits wid
    simp only [Nat.reduceSub, Int.reducePow, Int.pow_zero, Int.mul_one, Int.reduceMul, Int.reduceNeg, Nat.sub_self]
    repeat' split
    all_goals omega
theorem fold_cons (l : List UInt8) : ∀ n : Nat, l.foldl (fun n c => n * 256 + c.toNat) n = n * 256 ^ l.length + numN l := by
  induction l with
  | nil => intro n; simp [numN]
  | cons c l ih =>
    intro n
    have h := ih c.toNat
    unfold numN
    simp only [List.foldl_cons, List.length_cons, Nat.zero_mul, Nat.zero_add]
    rw [ih (n * 256 + c.toNat), h, Nat.add_mul, Nat.mul_assoc, ← Nat.pow_succ', Nat.add_assoc]
theorem numN_cons (c : UInt8) (l : List UInt8) : numN (c :: l) = c.toNat * 256 ^ l.length + numN l := by
  have h := fold_cons l c.toNat
  unfold numN
  simp only [List.foldl_cons, Nat.zero_mul, Nat.zero_add]
  exact h
theorem pow256 (k : Nat) : (2 : Nat) ^ (8 * k) = 256 ^ k := by rw [Nat.pow_mul]
theorem byte_nat (U k : Nat) : (UInt8.ofNat ((U : Int) / 2 ^ (8 * k) % 256).toNat).toNat = U / 256 ^ k % 256 := by
  have h := byte_at (U : Int) k
  have h2 : ((U : Int) / 2 ^ (8 * k) % 256) = ((U / 2 ^ (8 * k) % 256 : Nat) : Int) := by
    rw [Int.natCast_emod, Int.natCast_ediv, Int.natCast_pow]; rfl
  have h4 : (UInt8.ofNat ((U : Int) / 2 ^ (8 * k) % 256).toNat).toNat = U / 2 ^ (8 * k) % 256 := Int.ofNat_inj.1 (h.trans h2)
  rw [h4, pow256]
theorem numN_low (U : Nat) (k : Nat) : numN (low (U : Int) k) = U % 256 ^ k := by
  induction k with
  | zero => simp [low, numN, Nat.mod_one]
  | succ k ih =>
    rw [low_at, numN_cons, ih, low_len, byte_nat, Nat.pow_succ, Nat.mod_mul, Nat.mul_comm]
    omega
theorem low_num (l : List UInt8) (t : Nat) : low (((numN l + t * 256 ^ l.length : Nat)) : Int) l.length = l := by
  induction l generalizing t with
  | nil => rfl
  | cons c l ih =>
    have hc := c.toNat_lt
    have hlt := Oct.numN_lt l l.length (Nat.le_refl _)
    have hpos : 0 < 256 ^ l.length := Nat.pow_pos (by decide)
    have he : numN (c :: l) + t * 256 ^ (c :: l).length = numN l + (c.toNat + 256 * t) * 256 ^ l.length := by
      rw [numN_cons, List.length_cons, Nat.pow_succ, Nat.add_mul]
      have : t * (256 ^ l.length * 256) = 256 * t * 256 ^ l.length := by rw [← Nat.mul_assoc, Nat.mul_comm, ← Nat.mul_assoc]
      omega
    rw [he, List.length_cons, low_at, ih (c.toNat + 256 * t)]
    congr 1
    apply UInt8.toNat_inj.1
    rw [byte_nat, Nat.add_mul_div_right _ _ hpos, Nat.div_eq_of_lt hlt]
    omega
theorem top_low (U k : Nat) : ((low (U : Int) (k + 1)).getD 0 0).toNat = U / 256 ^ k % 256 := by rw [low_at]; exact byte_nat U k

theorem sgn_low (n u : Int) (hu : u = n % 18446744073709551616) (j : Nat) (hj : 1 ≤ j) (hj8 : j ≤ 8) (hw : fits n j) : sgn (low u j) = n := by
  obtain ⟨U, rfl⟩ := Int.eq_ofNat_of_zero_le (show 0 ≤ u by omega)
  obtain ⟨k, rfl⟩ : ∃ k, j = k + 1 := ⟨j - 1, by omega⟩
  unfold sgn sg
  rw [low_len, List.take_of_length_le (by rw [low_len]; omega), numN_low, top_low]
  unfold fits at hw
  rcases (show k = 0 ∨ k = 1 ∨ k = 2 ∨ k = 3 ∨ k = 4 ∨ k = 5 ∨ k = 6 ∨ k = 7 by omega) with rfl | rfl | rfl | rfl | rfl | rfl | rfl | rfl <;>
  · simp only [Nat.zero_add, Nat.reduceAdd, Nat.reducePow, Nat.pow_zero, Nat.div_one, Nat.reduceSub, Int.reducePow, Int.pow_zero, Int.mul_one, Int.reduceMul, Int.reduceNeg, Nat.sub_self] at hw ⊢
    split <;> omega
theorem sgn_fits (l : List UInt8) (h : 1 ≤ l.length) : fits (sgn l) l.length := by
  obtain ⟨k, hk⟩ : ∃ k, l.length = k + 1 := ⟨l.length - 1, by omega⟩
  unfold fits sgn
  rw [hk, Nat.add_sub_cancel]
  exact sg_bd l k (by omega)
theorem sgn_range (l : List UInt8) (h : 1 ≤ l.length) (h8 : l.length ≤ 8) : -9223372036854775808 ≤ sgn l ∧ sgn l ≤ 9223372036854775807 := by
  have hf := sgn_fits l h
  unfold fits at hf
  have h4 : (256 : Nat) ^ (l.length - 1) ≤ 256 ^ 7 := Nat.pow_le_pow_right (by decide) (by omega)
  have h5 : ((256 ^ (l.length - 1) : Nat) : Int) ≤ ((256 ^ 7 : Nat) : Int) := by omega
  rw [Int.natCast_pow] at h5
  have h6 : ((256 ^ 7 : Nat) : Int) = 72057594037927936 := by decide
  have h7 : ((256 : Nat) : Int) = 256 := rfl
  rw [h6, h7] at h5
  omega
/-- what is read has just its bytes -/
theorem low_sgn (l : List UInt8) (h : 1 ≤ l.length) (h8 : l.length ≤ 8) : low (sgn l % 18446744073709551616) l.length = l := by
  have hr := sgn_range l h h8
  have hlt := Oct.numN_lt l l.length (Nat.le_refl _)
  unfold sgn sg at *
  rw [List.take_of_length_le (Nat.le_refl _)] at *
  obtain ⟨c, hc⟩ : ∃ c, c = 8 - l.length := ⟨_, rfl⟩
  have hp : 256 ^ l.length * 256 ^ c = 18446744073709551616 := by rw [← Nat.pow_add, show l.length + c = 8 by omega]
  have hc1 : 1 ≤ 256 ^ c := Nat.pow_pos (by decide)
  by_cases hs : 128 ≤ (l.getD 0 0).toNat
  · rw [if_pos hs] at hr ⊢
    have h1 := low_num l (256 ^ c - 1)
    have he : ((numN l : Int) - 256 ^ l.length) % 18446744073709551616 = ((numN l + (256 ^ c - 1) * 256 ^ l.length : Nat) : Int) := by
      have h2 : (256 ^ c - 1) * 256 ^ l.length = 18446744073709551616 - 256 ^ l.length := by rw [Nat.sub_mul, Nat.mul_comm, hp, Nat.one_mul]
      have h3 : 256 ^ l.length ≤ 18446744073709551616 := by
        rw [← hp]
        exact Nat.le_mul_of_pos_right _ hc1
      rw [h2]
      have h4 : ((256 : Int) ^ l.length) = ((256 ^ l.length : Nat) : Int) := by rw [Int.natCast_pow]; rfl
      rw [h4]
      generalize 256 ^ l.length = P at *
      have hP : 0 < P := by omega
      omega
    rw [he]
    exact h1
  · rw [if_neg hs] at hr ⊢
    have h1 := low_num l 0
    rw [Nat.zero_mul, Nat.add_zero] at h1
    have he : ((numN l : Int) - 0) % 18446744073709551616 = (numN l : Int) := by omega
    rw [he]
    exact h1
theorem wid_sgn (l : List UInt8) (h : 1 ≤ l.length) (h8 : l.length ≤ 8) (hr : rightL l = true) : wid (sgn l) = l.length := by
  have hb := sgn_range l h h8
  have hle := (wid_le (sgn l) l.length h h8 hb).2 (sgn_fits l h)
  have h1 := (wid_bd (sgn l)).1
  by_cases h2 : 2 ≤ l.length
  · have h3 := right_wide (sgn l) _ rfl hb.1 hb.2 l.length h2 h8 hle
    rw [low_sgn l h h8, hr] at h3
    have h4 : ¬ wid (sgn l) < l.length := fun h5 => by have := h3.2 h5; cases this
    omega
  · omega
theorem right_low (n u : Int) (hu : u = n % 18446744073709551616) (hr : -9223372036854775808 ≤ n ∧ n ≤ 9223372036854775807) : rightL (low u (wid n)) = true := by
  obtain ⟨h1, h8⟩ := wid_bd n
  by_cases h2 : 2 ≤ wid n
  · have h3 := right_wide n u hu hr.1 hr.2 (wid n) h2 h8 (Nat.le_refl _)
    cases hc : rightL (low u (wid n)) with
    | true => rfl
    | false => exact absurd (h3.1 hc) (Nat.lt_irrefl _)
  · rw [show wid n = 1 by omega]; rfl
end Whole
end Go.Proofs.Ytjpjfdmcijleoaa

/- The walks of package whole. -/
namespace Go.Proofs.Ytjpjfdmcijleoaa
open Go.RowKit
namespace Whole

theorem i64_or_low (n : Int) (c : Nat) (hc : c < 256) (h1 : -36028797018963968 ≤ n) (h2 : n ≤ 36028797018963967) : bits .or .i64 (n * 256) (c : Int) = n * 256 + (c : Int) := by
  show IntKind.i64.wrap ((BitVec.ofInt 64 (n * 256) ||| BitVec.ofInt 64 (c : Int)).toNat : Int) = _
  rw [BitVec.toNat_or, BitVec.toNat_ofInt, BitVec.toNat_ofInt]
  obtain ⟨q, hq⟩ : ∃ q : Nat, ((n * 256) % ((2 ^ 64 : Nat) : Int)).toNat = 2 ^ 8 * q := ⟨((n * 256) % ((2 ^ 64 : Nat) : Int)).toNat / 2 ^ 8, by omega⟩
  have hcc : ((c : Int) % ((2 ^ 64 : Nat) : Int)).toNat = c := by omega
  rw [hq, hcc, ← Nat.two_pow_add_eq_or_of_lt (i := 8) (by omega), ← hq]
  simp only [IntKind.wrap, IntKind.bits, IntKind.signed]
  have h2p : ((2 ^ 64 : Nat) : Int) = 18446744073709551616 := by decide
  rw [h2p]
  clear hq hcc
  simp
  omega

theorem ret_bool {b c : Bool} (h : b = c) : Ending.returned (.bool b) = Ending.returned (.bool c) := by rw [h]
theorem at0 (s : ByteArray) (h : 0 < s.size) : s.data.toList.getD 0 0 = s[0] := by simp [List.getD, List.getElem?_eq_getElem (show 0 < s.data.toList.length from h)]; rfl
theorem get_at (s : ByteArray) (k : Nat) (h : k < s.size) : s.data.toList[k]? = some s[k] := by rw [List.getElem?_eq_getElem (show k < s.data.toList.length from h)]; rfl
theorem two_list (s : ByteArray) (h : 1 < s.size) : ∃ l, s.data.toList = s[0] :: s[1] :: l := by
  have h0 := get_at s 0 (by omega)
  have h1 := get_at s 1 h
  cases hl : s.data.toList with
  | nil => rw [hl] at h0; simp at h0
  | cons a m =>
    cases m with
    | nil => rw [hl] at h1; simp at h1
    | cons b m =>
      rw [hl] at h0 h1
      simp at h0 h1
      exact ⟨m, by rw [h0, h1]⟩

set_option maxRecDepth 100000 in
set_option maxHeartbeats 1000000 in
theorem right_ret (s : ByteArray) (hm : s.size ≤ 140737488355328) (B : Bool) (hB : B = rightL s.data.toList) : Ret 57 #[.string s] (.bool B) := by
  intro w
  by_cases h0 : s.size = 0
  · obtain rfl : s = ⟨#[]⟩ := ba_ext (List.eq_nil_of_length_eq_zero h0)
    have hB2 : B = false := hB
    subst hB2
    clear hB h0 hm
    go_enter Try.func57, Try.ntmps57
    go_wp2_with fail
    go_ret
    exact ⟨rfl, rfl⟩
  · by_cases h1 : s.size = 1
    · have hB2 : B = true := by
        rw [hB]
        cases hl : s.data.toList with
        | nil => exact absurd (show s.data.toList.length = 0 by rw [hl]; rfl) h0
        | cons a m =>
          cases m with
          | nil => rfl
          | cons b m => have h9 : s.data.toList.length = 1 := h1; rw [hl] at h9; simp at h9
      subst hB2
      have hne := some_bytes s (by omega)
      have hne2 := some_bytes_f s (by omega)
      have hb1 : ((s.size : Int) == 1) = true := by rw [h1]; rfl
      have hlt : s.size < 2 := by omega
      have hge : 1 ≤ s.size := by omega
      clear hB h0 h1
      go_enter Try.func57, Try.ntmps57
      go_wp2_with fail
      go_ret
      exact ⟨rfl, rfl⟩
    · have h2 : 1 < s.size := by omega
      obtain ⟨l, hl⟩ := two_list s h2
      rw [hl] at hB
      have hne2 := some_bytes_f s (by omega)
      have hb1 : ((s.size : Int) == 1) = false := by rw [beq_eq_false_iff_ne]; omega
      have hlt0 := s[0].toNat_lt
      have hlt1 := s[1].toNat_lt
      have hB' : B = (!(decide (s[0].toNat = 0) && decide (s[1].toNat < 128)) && !(decide (s[0].toNat = 255) && decide (128 ≤ s[1].toNat))) := hB
      clear hB hl h0 h1
      by_cases a0 : s[0].toNat = 0
      · have e1 : ((s[0].toNat : Int) == 0) = true := by rw [a0]; rfl
        have e2 : ((s[0].toNat : Int) == 255) = false := by rw [a0]; rfl
        have e3 : ((s[0].toNat : Int) != 255) = true := by rw [a0]; rfl
        by_cases b1 : s[1].toNat < 128
        · have d1 : decide (128 ≤ (s[1].toNat : Int)) = false := by simp; omega
          have hB2 : B = false := by rw [hB']; simp [a0, b1]
          subst hB2
          clear hB' a0
          go_enter Try.func57, Try.ntmps57
          go_wp2_with fail
          go_ret
          exact ⟨by first | rfl | exact ret_bool (by simp; omega), rfl⟩
        · have d1 : decide (128 ≤ (s[1].toNat : Int)) = true := by simp; omega
          have hB2 : B = true := by rw [hB']; simp [a0, b1]
          subst hB2
          clear hB' a0
          go_enter Try.func57, Try.ntmps57
          go_wp2_with fail
          go_ret
          exact ⟨by first | rfl | exact ret_bool (by simp; omega), rfl⟩
      · have e1 : ((s[0].toNat : Int) == 0) = false := by rw [beq_eq_false_iff_ne]; omega
        by_cases a2 : s[0].toNat = 255
        · have e2 : ((s[0].toNat : Int) == 255) = true := by rw [a2]; rfl
          have e3 : ((s[0].toNat : Int) != 255) = false := by rw [a2]; rfl
          by_cases b1 : s[1].toNat < 128
          · have d1 : decide (128 ≤ (s[1].toNat : Int)) = false := by simp; omega
            have hB2 : B = true := by rw [hB']; simp [a2]; omega
            subst hB2
            clear hB' a0 a2
            go_enter Try.func57, Try.ntmps57
            go_wp2_with fail
            go_ret
            exact ⟨by first | rfl | exact ret_bool (by simp; omega), rfl⟩
          · have d1 : decide (128 ≤ (s[1].toNat : Int)) = true := by simp; omega
            have hB2 : B = false := by rw [hB']; simp [a2]; omega
            subst hB2
            clear hB' a0 a2
            go_enter Try.func57, Try.ntmps57
            go_wp2_with fail
            go_ret
            exact ⟨by first | rfl | exact ret_bool (by simp; omega), rfl⟩
        · have e2 : ((s[0].toNat : Int) == 255) = false := by rw [beq_eq_false_iff_ne]; omega
          have e3 : ((s[0].toNat : Int) != 255) = true := by rw [bne_iff_ne]; omega
          have hB2 : B = true := by rw [hB']; simp [a0, a2]
          subst hB2
          clear hB' a0 a2
          go_enter Try.func57, Try.ntmps57
          go_wp2_with fail
          go_ret
          exact ⟨by first | rfl | exact ret_bool (by simp; omega), rfl⟩

set_option maxRecDepth 100000 in
set_option maxHeartbeats 1000000 in
theorem rright_ret (s : ByteArray) (hm : s.size ≤ 140737488355328) (B : Bool) (hB : B = rightL s.data.toList) : Ret 63 #[.string s] (.bool B) := by
  intro w
  by_cases h0 : s.size = 0
  · obtain rfl : s = ⟨#[]⟩ := ba_ext (List.eq_nil_of_length_eq_zero h0)
    have hB2 : B = false := hB
    subst hB2
    clear hB h0 hm
    go_enter Try.func63, Try.ntmps63
    go_wp2_with fail
    go_ret
    exact ⟨rfl, rfl⟩
  · by_cases h1 : s.size = 1
    · have hB2 : B = true := by
        rw [hB]
        cases hl : s.data.toList with
        | nil => exact absurd (show s.data.toList.length = 0 by rw [hl]; rfl) h0
        | cons a m =>
          cases m with
          | nil => rfl
          | cons b m => have h9 : s.data.toList.length = 1 := h1; rw [hl] at h9; simp at h9
      subst hB2
      have hne := some_bytes s (by omega)
      have hne2 := some_bytes_f s (by omega)
      have hb1 : ((s.size : Int) == 1) = true := by rw [h1]; rfl
      have hlt : s.size < 2 := by omega
      have hge : 1 ≤ s.size := by omega
      clear hB h0 h1
      go_enter Try.func63, Try.ntmps63
      go_wp2_with fail
      go_ret
      exact ⟨rfl, rfl⟩
    · have h2 : 1 < s.size := by omega
      obtain ⟨l, hl⟩ := two_list s h2
      rw [hl] at hB
      have hne2 := some_bytes_f s (by omega)
      have hb1 : ((s.size : Int) == 1) = false := by rw [beq_eq_false_iff_ne]; omega
      have hlt0 := s[0].toNat_lt
      have hlt1 := s[1].toNat_lt
      have hB' : B = (!(decide (s[0].toNat = 0) && decide (s[1].toNat < 128)) && !(decide (s[0].toNat = 255) && decide (128 ≤ s[1].toNat))) := hB
      clear hB hl h0 h1
      by_cases a0 : s[0].toNat = 0
      · have e1 : ((s[0].toNat : Int) == 0) = true := by rw [a0]; rfl
        have e2 : ((s[0].toNat : Int) == 255) = false := by rw [a0]; rfl
        have e3 : ((s[0].toNat : Int) != 255) = true := by rw [a0]; rfl
        by_cases b1 : s[1].toNat < 128
        · have d1 : decide (128 ≤ (s[1].toNat : Int)) = false := by simp; omega
          have hB2 : B = false := by rw [hB']; simp [a0, b1]
          subst hB2
          clear hB' a0
          go_enter Try.func63, Try.ntmps63
          go_wp2_with fail
          go_ret
          exact ⟨by first | rfl | exact ret_bool (by simp; omega), rfl⟩
        · have d1 : decide (128 ≤ (s[1].toNat : Int)) = true := by simp; omega
          have hB2 : B = true := by rw [hB']; simp [a0, b1]
          subst hB2
          clear hB' a0
          go_enter Try.func63, Try.ntmps63
          go_wp2_with fail
          go_ret
          exact ⟨by first | rfl | exact ret_bool (by simp; omega), rfl⟩
      · have e1 : ((s[0].toNat : Int) == 0) = false := by rw [beq_eq_false_iff_ne]; omega
        by_cases a2 : s[0].toNat = 255
        · have e2 : ((s[0].toNat : Int) == 255) = true := by rw [a2]; rfl
          have e3 : ((s[0].toNat : Int) != 255) = false := by rw [a2]; rfl
          by_cases b1 : s[1].toNat < 128
          · have d1 : decide (128 ≤ (s[1].toNat : Int)) = false := by simp; omega
            have hB2 : B = true := by rw [hB']; simp [a2]; omega
            subst hB2
            clear hB' a0 a2
            go_enter Try.func63, Try.ntmps63
            go_wp2_with fail
            go_ret
            exact ⟨by first | rfl | exact ret_bool (by simp; omega), rfl⟩
          · have d1 : decide (128 ≤ (s[1].toNat : Int)) = true := by simp; omega
            have hB2 : B = false := by rw [hB']; simp [a2]; omega
            subst hB2
            clear hB' a0 a2
            go_enter Try.func63, Try.ntmps63
            go_wp2_with fail
            go_ret
            exact ⟨by first | rfl | exact ret_bool (by simp; omega), rfl⟩
        · have e2 : ((s[0].toNat : Int) == 255) = false := by rw [beq_eq_false_iff_ne]; omega
          have e3 : ((s[0].toNat : Int) != 255) = true := by rw [bne_iff_ne]; omega
          have hB2 : B = true := by rw [hB']; simp [a0, a2]
          subst hB2
          clear hB' a0 a2
          go_enter Try.func63, Try.ntmps63
          go_wp2_with fail
          go_ret
          exact ⟨by first | rfl | exact ret_bool (by simp; omega), rfl⟩


def decB (l : List UInt8) : Bool := rightL l && decide (l.length ≤ 8)
def decV (l : List UInt8) : Int := if decB l = true then sgn l else 0

theorem low_drop (u : Int) (j : Nat) : (bs (RefOct.low u (j + 1))).extract 1 (bs (RefOct.low u (j + 1))).size = bs (RefOct.low u j) := by
  apply ba_ext
  rw [ext_list, list_bs, list_bs, low_at, List.drop_succ_cons, List.drop_zero, List.take_of_length_le (by rw [size_bs, List.length_cons]; omega)]

theorem wrap_u64 (n : Int) : IntKind.u64.wrap n = n % 18446744073709551616 := by simp [IntKind.wrap, IntKind.bits, IntKind.signed]

theorem fits_of (n : Int) (j : Nat) (h1 : -9223372036854775808 ≤ n) (h2 : n ≤ 9223372036854775807) (hj : wid n ≤ j) (hj8 : j ≤ 8) : fits n j := (wid_le n j (Nat.le_trans (wid_bd n).1 hj) hj8 ⟨h1, h2⟩).1 hj
theorem not_fits (n : Int) (j : Nat) (h1 : -9223372036854775808 ≤ n) (h2 : n ≤ 9223372036854775807) (hj : j < wid n) (hj1 : 1 ≤ j) : ¬ fits n j := fun h => Nat.lt_irrefl _ (Nat.lt_of_lt_of_le hj ((wid_le n j hj1 (by have := (wid_bd n).2; omega) ⟨h1, h2⟩).2 h))

/-- the contents of a number that is not below 0 -/
def bigT (t : List UInt8) : List UInt8 := match t with | [] => [0] | x :: l => if 128 ≤ x.toNat then 0 :: x :: l else x :: l
def bigL (l : List UInt8) : List UInt8 := bigT (Oct.trimL l)

theorem trimL_size (s : ByteArray) : (bs (Oct.trimL s.data.toList)).size ≤ s.size := by
  rw [size_bs]
  exact (List.dropWhile_sublist (fun x : UInt8 => x == 0) (l := s.data.toList)).length_le

end Whole
end Go.Proofs.Ytjpjfdmcijleoaa
