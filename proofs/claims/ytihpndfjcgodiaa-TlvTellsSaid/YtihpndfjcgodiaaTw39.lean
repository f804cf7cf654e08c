/- Joined texts. -/
-- PACK: YtihpndfjcgodiaaUtf YtihpndfjcgodiaaRefUtf
import Derived.Test.YtihpndfjcgodiaaTw36
import Derived.Test.YtihpndfjcgodiaaTw15
import Derived.Test.YtihpndfjcgodiaaTw9
import Derived.LoopTactic

/- Package strs: Utf, and its reference. -/
namespace Go.Proofs.Ytihpndfjcgodiaa
open Go.RowKit
namespace Utf

def sRep : ByteArray := ⟨#[239, 191, 189]⟩
theorem take3 (l : List UInt8) (h : ent l 0 = 239 ∧ ent l 1 = 191 ∧ ent l 2 = 189) : l.take 3 = [239, 191, 189] := by
  obtain ⟨h0, h1, h2⟩ := h
  match l, h0, h1, h2 with
  | [], h0, _, _ => exact absurd h0 (by decide)
  | [a], _, h1, _ => exact absurd h1 (show (0 : Nat) ≠ 191 by decide)
  | [a, b], _, _, h2 => exact absurd h2 (show (0 : Nat) ≠ 189 by decide)
  | a :: b :: c :: r, h0, h1, h2 =>
    have e0 : a = 239 := UInt8.toNat_inj.1 h0
    have e1 : b = 191 := UInt8.toNat_inj.1 h1
    have e2 : c = 189 := UInt8.toNat_inj.1 h2
    rw [e0, e1, e2]; rfl
theorem take3_back (l : List UInt8) (h : l.take 3 = [239, 191, 189]) : ent l 0 = 239 ∧ ent l 1 = 191 ∧ ent l 2 = 189 := by
  match l, h with
  | [], h => cases h
  | [a], h => cases h
  | [a, b], h => cases h
  | a :: b :: c :: r, h =>
    simp only [List.take_succ_cons, List.take_zero, List.cons.injEq, and_true] at h
    obtain ⟨rfl, rfl, rfl⟩ := h
    exact ⟨rfl, rfl, rfl⟩
theorem pt_rep (l : List UInt8) (h : l.take 3 = [239, 191, 189]) : ptL l = 3 := by
  obtain ⟨h0, h1, h2⟩ := take3_back l h
  have hl : 3 ≤ l.length := by
    have := congrArg List.length h
    rw [List.length_take] at this
    have h9 : [239, 191, (189 : UInt8)].length = 3 := rfl
    omega
  unfold ptL ptG
  rw [fold2, h0]
  simp only [all2]
  unfold cont
  rw [h1, h2, if_neg (show ¬ 239 < 128 by omega), if_neg (show ¬ (192 ≤ 239 ∧ 239 < 224) by omega), if_pos (show 224 ≤ 239 ∧ 239 < 240 by omega), if_neg (show ¬ l.length ≤ 2 by omega), if_neg (show ¬ ¬ ((128 ≤ 191 ∧ 191 ≤ 191) ∧ 128 ≤ 189 ∧ 189 ≤ 191) by omega), if_neg (show ¬ (64 * (64 * (239 - 224) + (191 - 128)) + (189 - 128) < 2048 ∨ 1114111 < 64 * (64 * (239 - 224) + (191 - 128)) + (189 - 128) ∨ 55295 < 64 * (64 * (239 - 224) + (191 - 128)) + (189 - 128) ∧ 64 * (64 * (239 - 224) + (191 - 128)) + (189 - 128) < 57344) by omega)]
set_option maxRecDepth 100000 in
set_option maxHeartbeats 1000000 in
theorem utf_mak (s : ByteArray) (hm : s.size ≤ 1000000) (q : Bool) (hq : q = utfB s.data.toList) : Mak 82 #[.string s] (.bool q) := by
  intro w
  have H0 := Lib.hid (Since.refl w)
  have HQ := Lib.hid hq
  clear hq
  go_enter Try.func82, Try.ntmps82
  go_wp2_with fail
  go_loopw [3] (fun _ w' => ∃ pos : Nat, pos ≤ s.size ∧ w' = w.iter s pos ∧ Hid (q = utfB (s.data.toList.drop pos))) (fun _ w' => s.size - w'.iterPos w.heap.size)
  case atStart => exact ⟨0, by omega, rfl, by rw [List.drop_zero]; exact HQ⟩
  case round =>
    clear HQ
    obtain ⟨pos, hps, rfl, HQ⟩ := hrel
    obtain ⟨l, hl⟩ : ∃ l, l = s.data.toList.drop pos := ⟨_, rfl⟩
    rw [← hl] at HQ
    have hlen : l.length = s.size - pos := by rw [hl, List.length_drop]; rfl
    by_cases hp : pos < s.size
    · have hnx : ∀ ty, (Instr.next (.pointer (some ⟨w.heap.size, 0, none⟩)) true ty).run Try.prog (w.iter s pos) = _ := fun ty => run_next_any w s pos ty hp
      have hd := dec_pt s pos hp l hl
      obtain ⟨r, hr⟩ : ∃ r, r = (Utf8.decode s pos).1 := ⟨_, rfl⟩
      obtain ⟨n, hn⟩ : ∃ n, n = (Utf8.decode s pos).2 := ⟨_, rfl⟩
      have hde : Utf8.decode s pos = (r, n) := by rw [hr, hn]
      rw [hde] at hd hnx
      dsimp only at hd hnx
      clear hr hn hde
      by_cases hz : ptL l = 0
      · rw [if_pos hz] at hd
        obtain ⟨rfl, rfl⟩ := Prod.mk.inj hd
        obtain rfl : q = false := by rw [HQ.out]; exact utfB_bad l (by omega) hz
        have hc : Ret 62 #[.string s, .int .i64 (pos : Int), .int .i64 3] (.string (bs (l.take 3))) := fun w => by
          rw [hl]
          exact Oct.cut_yes s pos 3 w (by omega) (by decide) hp (by decide)
        have hne : (bs (l.take 3)) ≠ sRep := fun h => by
          rw [pt_rep l (congrArg (fun x : ByteArray => x.data.toList) h)] at hz
          cases hz
        have hn1 : (!(bs (l.take 3)).toList == sRep.toList) = true := str_ne_t hne
        generalize bs (l.take 3) = X at hc hn1
        unfold sRep at hn1
        rw [toList_d ⟨#[239, 191, 189]⟩] at hn1
        clear hd hz hne
        go_wp2_with fail
        refine hc.calls ?_
        go_wp2_with fail
        go_ret
        exact ⟨rfl, Since.alloc H0.out _⟩
      · rw [if_neg hz] at hd
        obtain ⟨hn, hr, hl3⟩ := hd
        have hw1 : 1 ≤ n := by omega
        have HQ2 : Hid (q = utfB (s.data.toList.drop (pos + n))) := Lib.hid (by rw [HQ.out, utfB_step l (by omega) hz, hn, hl, List.drop_drop])
        have hle : pos + n ≤ s.size := by
          have : ptL l ≤ l.length := by
            cases l with
            | nil => simp at hlen; omega
            | cons a t => exact pt_len a t
          omega
        by_cases h3 : r = 65533
        · subst h3
          have hc : Ret 62 #[.string s, .int .i64 (pos : Int), .int .i64 3] (.string sRep) := fun w => by
            have h9 := Oct.cut_yes s pos 3 w (by omega) (by decide) hp (by decide)
            rw [← hl, take3 l (hr.1 rfl)] at h9
            exact h9
          unfold sRep at hc
          clear hn hr hl3 hz hl
          go_wp2_with fail
          refine hc.calls ?_
          go_wp2_with fail
          go_roundw
          case rel => exact ⟨pos + n, hle, rfl, HQ2⟩
          case measure => simp; omega
        · have t1 : ((r : Int) == 65533) = false := by rw [beq_eq_false_iff_ne]; omega
          clear hn hr hl3 hz hl
          go_wp2_with fail
          go_roundw
          case rel => exact ⟨pos + n, hle, rfl, HQ2⟩
          case measure => simp; omega
    · have hnx : ∀ ty, (Instr.next (.pointer (some ⟨w.heap.size, 0, none⟩)) true ty).run Try.prog (w.iter s pos) = _ := fun ty => run_next_end w s pos ty hp
      obtain rfl : q = true := by rw [HQ.out, List.eq_nil_of_length_eq_zero (show l.length = 0 by omega)]; rfl
      clear hl
      go_wp2_with fail
      go_ret
      exact ⟨rfl, Since.alloc H0.out _⟩
end Utf
end Go.Proofs.Ytihpndfjcgodiaa

/- The reference of strs.Utf: point, Utf. -/
namespace Go.Proofs.Ytihpndfjcgodiaa
open Go.RowKit
namespace RefUtf
open Utf

theorem at_ent (s : ByteArray) (k : Nat) (h : k < s.size) : s[k].toNat = ent s.data.toList k := by
  unfold ent
  have h2 : k < s.data.toList.length := h
  rw [List.getD_eq_getElem?_getD, List.getElem?_eq_getElem h2]
  rfl
theorem fold_lt (l : List UInt8) (n : Nat) (hn : n < 32) (k : Nat) (hk : k ≤ 3) : fold l n k < 16777216 := by
  have h1 := Utf.ent_lt l 1; have h2 := Utf.ent_lt l 2; have h3 := Utf.ent_lt l 3
  match k, hk with
  | 0, _ => show n < _; omega
  | 1, _ => rw [fold1]; omega
  | 2, _ => rw [fold2]; omega
  | 3, _ => rw [fold3]; omega
set_option maxRecDepth 100000 in
set_option maxHeartbeats 2000000 in
theorem point_1 (s : ByteArray) (h0 : 0 < s.size) (hm : s.size ≤ 1000000) (b : Nat) (hb : b = s[0].toNat) (h1 : 192 ≤ b) (h2 : b < 224) (x : Nat) (hx : x = ptG s.data.toList (b - 192) 1 128) : Ret 98 #[.string s] (.int .i64 (x : Int)) := by
  intro w
  obtain ⟨l, hl⟩ : ∃ l, l = s.data.toList := ⟨_, rfl⟩
  rw [← hl] at hx
  have hlen : l.length = s.size := by rw [hl]; rfl
  obtain ⟨n0, hn0⟩ : ∃ n0, n0 = b - 192 := ⟨_, rfl⟩
  rw [← hn0] at hx
  have hi : ((b : Nat) : Int) - 192 = (n0 : Int) := by omega
  have hn9 : n0 < 32 := by omega
  (have t1 : decide ((b : Int) < 128) = false := decide_eq_false (by omega); have t2 : decide ((192 : Int) ≤ (b : Int)) = true := decide_eq_true (by omega); have t3 : decide ((b : Int) < 224) = true := decide_eq_true (by omega); have t4 : decide ((224 : Int) ≤ (b : Int)) = false := decide_eq_false (by omega); have t5 : decide ((b : Int) < 240) = true := decide_eq_true (by omega); have t6 : decide ((240 : Int) ≤ (b : Int)) = false := decide_eq_false (by omega); have t7 : decide ((b : Int) < 248) = true := decide_eq_true (by omega))
  rw [hb] at hi t1 t2 t3 t4 t5 t6 t7
  have HB := Lib.hid hb
  have HI := Lib.hid hn0
  clear hb hn0 h1 h2
  have HX := Lib.hid hx
  unfold ptG at hx
  by_cases hs : l.length ≤ 1
  · rw [if_pos hs] at hx
    subst hx
    have t8 : decide ((s.size : Int) ≤ 1) = true := decide_eq_true (by omega)
    clear hs hl
    go_enter Try.func98, Try.ntmps98
    go_wp2_with fail
    go_ret
    exact ⟨rfl, rfl⟩
  · rw [if_neg hs] at hx
    have t8 : decide ((s.size : Int) ≤ 1) = false := decide_eq_false (by omega)
    have HL := Lib.hid hl
    have HX2 := Lib.hid hx
    clear hx hl
    go_enter Try.func98, Try.ntmps98
    go_wp2_with fail
    go_loop [4, 7] (fun n i => ∃ k : Nat, k ≤ 1 ∧ i = .int .i64 ((k + 1 : Nat) : Int) ∧ n = .int .i64 ((fold l n0 k : Nat) : Int) ∧ Hid (∀ i, i < k → cont (ent l (i + 1)))) (fun _ i => 5 - (intOf i).toNat)
    case atStart => exact ⟨0, by omega, rfl, rfl, Lib.hid (fun i hi => absurd hi (Nat.not_lt_zero i))⟩
    case round =>
      clear t1 t2 t3 t4 t5 t6 t7 t8
      obtain ⟨k, hk, rfl, rfl, HC⟩ := hrel
      have hF9 := fold_lt l n0 hn9 k (by omega)
      by_cases hlt : k < 1
      · obtain ⟨F, hF⟩ : ∃ F, F = fold l n0 k := ⟨_, rfl⟩
        rw [← hF] at hF9 ⊢
        have hk2 : k + 1 < s.size := by omega
        have hce : s[k + 1].toNat = ent l (k + 1) := by rw [HL.out]; exact at_ent s (k + 1) hk2
        have hc9 := s[k + 1].toNat_lt
        by_cases hc : cont (ent l (k + 1))
        · have HC2 : Hid (∀ i, i < k + 1 → cont (ent l (i + 1))) := Lib.hid (fun i hi => by
            by_cases h : i < k
            · exact HC.out i h
            · obtain rfl : i = k := by omega
              exact hc)
          have e2 : fold l n0 (k + 1) = 64 * F + (s[k + 1].toNat - 128) := by rw [hce, hF]; rfl
          unfold cont at hc
          have a1 : decide ((s[k + 1].toNat : Int) < 128) = false := decide_eq_false (by omega)
          have a2 : decide ((191 : Int) < (s[k + 1].toNat : Int)) = false := decide_eq_false (by omega)
          have hcc : 128 ≤ s[k + 1].toNat := by omega
          have E2 := Lib.hid e2
          clear hc hce hF e2
          go_wp2_with fail
          go_round
          case rel => exact ⟨k + 1, by omega, by go_num, by rw [E2.out]; go_num, HC2⟩
          case measure => simp [intOf]; omega
        · obtain rfl : x = 0 := by
            have h9 := HX2.out
            rw [if_pos (show ¬ (∀ i, i < 1 → cont (ent l (i + 1))) from fun h => hc (h k hlt))] at h9
            exact h9
          unfold cont at hc
          by_cases a : s[k + 1].toNat < 128
          · have a1 : decide ((s[k + 1].toNat : Int) < 128) = true := decide_eq_true (by omega)
            clear hc hce hF a
            go_wp2_with fail
            go_ret
            exact ⟨rfl, rfl⟩
          · have a1 : decide ((s[k + 1].toNat : Int) < 128) = false := decide_eq_false (by omega)
            have a2 : decide ((191 : Int) < (s[k + 1].toNat : Int)) = true := decide_eq_true (by omega)
            clear hc hce hF a
            go_wp2_with fail
            go_ret
            exact ⟨rfl, rfl⟩
      · obtain rfl : k = 1 := by omega
        have h9 := HX2.out
        rw [if_neg (show ¬ ¬ (∀ i, i < 1 → cont (ent l (i + 1))) from fun h => h HC.out)] at h9
        generalize fold l n0 1 = F at h9 hF9 ⊢
        by_cases a1 : F < 128
        · rw [if_pos (Or.inl a1)] at h9
          subst h9
          have t1 : decide ((F : Int) < 128) = true := decide_eq_true (by omega)
          go_wp2_with fail
          go_ret
          exact ⟨rfl, rfl⟩
        have t1 : decide ((F : Int) < 128) = false := decide_eq_false (by omega)
        by_cases a2 : 1114111 < F
        · rw [if_pos (Or.inr (Or.inl a2))] at h9
          subst h9
          have t2 : decide ((1114111 : Int) < (F : Int)) = true := decide_eq_true (by omega)
          go_wp2_with fail
          go_ret
          exact ⟨rfl, rfl⟩
        have t2 : decide ((1114111 : Int) < (F : Int)) = false := decide_eq_false (by omega)
        by_cases a3 : 55295 < F
        · have t3 : decide ((55295 : Int) < (F : Int)) = true := decide_eq_true (by omega)
          by_cases a4 : F < 57344
          · rw [if_pos (Or.inr (Or.inr ⟨a3, a4⟩))] at h9
            subst h9
            have t4 : decide ((F : Int) < 57344) = true := decide_eq_true (by omega)
            go_wp2_with fail
            go_ret
            exact ⟨rfl, rfl⟩
          · rw [if_neg (by omega)] at h9
            subst h9
            have t4 : decide ((F : Int) < 57344) = false := decide_eq_false (by omega)
            go_wp2_with fail
            go_ret
            exact ⟨rfl, rfl⟩
        · rw [if_neg (by omega)] at h9
          subst h9
          have t3 : decide ((55295 : Int) < (F : Int)) = false := decide_eq_false (by omega)
          go_wp2_with fail
          go_ret
          exact ⟨rfl, rfl⟩
set_option maxRecDepth 100000 in
set_option maxHeartbeats 2000000 in
theorem point_2 (s : ByteArray) (h0 : 0 < s.size) (hm : s.size ≤ 1000000) (b : Nat) (hb : b = s[0].toNat) (h1 : 224 ≤ b) (h2 : b < 240) (x : Nat) (hx : x = ptG s.data.toList (b - 224) 2 2048) : Ret 98 #[.string s] (.int .i64 (x : Int)) := by
  intro w
  obtain ⟨l, hl⟩ : ∃ l, l = s.data.toList := ⟨_, rfl⟩
  rw [← hl] at hx
  have hlen : l.length = s.size := by rw [hl]; rfl
  obtain ⟨n0, hn0⟩ : ∃ n0, n0 = b - 224 := ⟨_, rfl⟩
  rw [← hn0] at hx
  have hi : ((b : Nat) : Int) - 224 = (n0 : Int) := by omega
  have hn9 : n0 < 32 := by omega
  (have t1 : decide ((b : Int) < 128) = false := decide_eq_false (by omega); have t2 : decide ((192 : Int) ≤ (b : Int)) = true := decide_eq_true (by omega); have t3 : decide ((b : Int) < 224) = false := decide_eq_false (by omega); have t4 : decide ((224 : Int) ≤ (b : Int)) = true := decide_eq_true (by omega); have t5 : decide ((b : Int) < 240) = true := decide_eq_true (by omega); have t6 : decide ((240 : Int) ≤ (b : Int)) = false := decide_eq_false (by omega); have t7 : decide ((b : Int) < 248) = true := decide_eq_true (by omega))
  rw [hb] at hi t1 t2 t3 t4 t5 t6 t7
  have HB := Lib.hid hb
  have HI := Lib.hid hn0
  clear hb hn0 h1 h2
  have HX := Lib.hid hx
  unfold ptG at hx
  by_cases hs : l.length ≤ 2
  · rw [if_pos hs] at hx
    subst hx
    have t8 : decide ((s.size : Int) ≤ 2) = true := decide_eq_true (by omega)
    clear hs hl
    go_enter Try.func98, Try.ntmps98
    go_wp2_with fail
    go_ret
    exact ⟨rfl, rfl⟩
  · rw [if_neg hs] at hx
    have t8 : decide ((s.size : Int) ≤ 2) = false := decide_eq_false (by omega)
    have HL := Lib.hid hl
    have HX2 := Lib.hid hx
    clear hx hl
    go_enter Try.func98, Try.ntmps98
    go_wp2_with fail
    go_loop [4, 7] (fun n i => ∃ k : Nat, k ≤ 2 ∧ i = .int .i64 ((k + 1 : Nat) : Int) ∧ n = .int .i64 ((fold l n0 k : Nat) : Int) ∧ Hid (∀ i, i < k → cont (ent l (i + 1)))) (fun _ i => 5 - (intOf i).toNat)
    case atStart => exact ⟨0, by omega, rfl, rfl, Lib.hid (fun i hi => absurd hi (Nat.not_lt_zero i))⟩
    case round =>
      clear t1 t2 t3 t4 t5 t6 t7 t8
      obtain ⟨k, hk, rfl, rfl, HC⟩ := hrel
      have hF9 := fold_lt l n0 hn9 k (by omega)
      by_cases hlt : k < 2
      · obtain ⟨F, hF⟩ : ∃ F, F = fold l n0 k := ⟨_, rfl⟩
        rw [← hF] at hF9 ⊢
        have hk2 : k + 1 < s.size := by omega
        have hce : s[k + 1].toNat = ent l (k + 1) := by rw [HL.out]; exact at_ent s (k + 1) hk2
        have hc9 := s[k + 1].toNat_lt
        by_cases hc : cont (ent l (k + 1))
        · have HC2 : Hid (∀ i, i < k + 1 → cont (ent l (i + 1))) := Lib.hid (fun i hi => by
            by_cases h : i < k
            · exact HC.out i h
            · obtain rfl : i = k := by omega
              exact hc)
          have e2 : fold l n0 (k + 1) = 64 * F + (s[k + 1].toNat - 128) := by rw [hce, hF]; rfl
          unfold cont at hc
          have a1 : decide ((s[k + 1].toNat : Int) < 128) = false := decide_eq_false (by omega)
          have a2 : decide ((191 : Int) < (s[k + 1].toNat : Int)) = false := decide_eq_false (by omega)
          have hcc : 128 ≤ s[k + 1].toNat := by omega
          have E2 := Lib.hid e2
          clear hc hce hF e2
          go_wp2_with fail
          go_round
          case rel => exact ⟨k + 1, by omega, by go_num, by rw [E2.out]; go_num, HC2⟩
          case measure => simp [intOf]; omega
        · obtain rfl : x = 0 := by
            have h9 := HX2.out
            rw [if_pos (show ¬ (∀ i, i < 2 → cont (ent l (i + 1))) from fun h => hc (h k hlt))] at h9
            exact h9
          unfold cont at hc
          by_cases a : s[k + 1].toNat < 128
          · have a1 : decide ((s[k + 1].toNat : Int) < 128) = true := decide_eq_true (by omega)
            clear hc hce hF a
            go_wp2_with fail
            go_ret
            exact ⟨rfl, rfl⟩
          · have a1 : decide ((s[k + 1].toNat : Int) < 128) = false := decide_eq_false (by omega)
            have a2 : decide ((191 : Int) < (s[k + 1].toNat : Int)) = true := decide_eq_true (by omega)
            clear hc hce hF a
            go_wp2_with fail
            go_ret
            exact ⟨rfl, rfl⟩
      · obtain rfl : k = 2 := by omega
        have h9 := HX2.out
        rw [if_neg (show ¬ ¬ (∀ i, i < 2 → cont (ent l (i + 1))) from fun h => h HC.out)] at h9
        generalize fold l n0 2 = F at h9 hF9 ⊢
        by_cases a1 : F < 2048
        · rw [if_pos (Or.inl a1)] at h9
          subst h9
          have t1 : decide ((F : Int) < 2048) = true := decide_eq_true (by omega)
          go_wp2_with fail
          go_ret
          exact ⟨rfl, rfl⟩
        have t1 : decide ((F : Int) < 2048) = false := decide_eq_false (by omega)
        by_cases a2 : 1114111 < F
        · rw [if_pos (Or.inr (Or.inl a2))] at h9
          subst h9
          have t2 : decide ((1114111 : Int) < (F : Int)) = true := decide_eq_true (by omega)
          go_wp2_with fail
          go_ret
          exact ⟨rfl, rfl⟩
        have t2 : decide ((1114111 : Int) < (F : Int)) = false := decide_eq_false (by omega)
        by_cases a3 : 55295 < F
        · have t3 : decide ((55295 : Int) < (F : Int)) = true := decide_eq_true (by omega)
          by_cases a4 : F < 57344
          · rw [if_pos (Or.inr (Or.inr ⟨a3, a4⟩))] at h9
            subst h9
            have t4 : decide ((F : Int) < 57344) = true := decide_eq_true (by omega)
            go_wp2_with fail
            go_ret
            exact ⟨rfl, rfl⟩
          · rw [if_neg (by omega)] at h9
            subst h9
            have t4 : decide ((F : Int) < 57344) = false := decide_eq_false (by omega)
            go_wp2_with fail
            go_ret
            exact ⟨rfl, rfl⟩
        · rw [if_neg (by omega)] at h9
          subst h9
          have t3 : decide ((55295 : Int) < (F : Int)) = false := decide_eq_false (by omega)
          go_wp2_with fail
          go_ret
          exact ⟨rfl, rfl⟩
set_option maxRecDepth 100000 in
set_option maxHeartbeats 2000000 in
theorem point_3 (s : ByteArray) (h0 : 0 < s.size) (hm : s.size ≤ 1000000) (b : Nat) (hb : b = s[0].toNat) (h1 : 240 ≤ b) (h2 : b < 248) (x : Nat) (hx : x = ptG s.data.toList (b - 240) 3 65536) : Ret 98 #[.string s] (.int .i64 (x : Int)) := by
  intro w
  obtain ⟨l, hl⟩ : ∃ l, l = s.data.toList := ⟨_, rfl⟩
  rw [← hl] at hx
  have hlen : l.length = s.size := by rw [hl]; rfl
  obtain ⟨n0, hn0⟩ : ∃ n0, n0 = b - 240 := ⟨_, rfl⟩
  rw [← hn0] at hx
  have hi : ((b : Nat) : Int) - 240 = (n0 : Int) := by omega
  have hn9 : n0 < 32 := by omega
  (have t1 : decide ((b : Int) < 128) = false := decide_eq_false (by omega); have t2 : decide ((192 : Int) ≤ (b : Int)) = true := decide_eq_true (by omega); have t3 : decide ((b : Int) < 224) = false := decide_eq_false (by omega); have t4 : decide ((224 : Int) ≤ (b : Int)) = true := decide_eq_true (by omega); have t5 : decide ((b : Int) < 240) = false := decide_eq_false (by omega); have t6 : decide ((240 : Int) ≤ (b : Int)) = true := decide_eq_true (by omega); have t7 : decide ((b : Int) < 248) = true := decide_eq_true (by omega))
  rw [hb] at hi t1 t2 t3 t4 t5 t6 t7
  have HB := Lib.hid hb
  have HI := Lib.hid hn0
  clear hb hn0 h1 h2
  have HX := Lib.hid hx
  unfold ptG at hx
  by_cases hs : l.length ≤ 3
  · rw [if_pos hs] at hx
    subst hx
    have t8 : decide ((s.size : Int) ≤ 3) = true := decide_eq_true (by omega)
    clear hs hl
    go_enter Try.func98, Try.ntmps98
    go_wp2_with fail
    go_ret
    exact ⟨rfl, rfl⟩
  · rw [if_neg hs] at hx
    have t8 : decide ((s.size : Int) ≤ 3) = false := decide_eq_false (by omega)
    have HL := Lib.hid hl
    have HX2 := Lib.hid hx
    clear hx hl
    go_enter Try.func98, Try.ntmps98
    go_wp2_with fail
    go_loop [4, 7] (fun n i => ∃ k : Nat, k ≤ 3 ∧ i = .int .i64 ((k + 1 : Nat) : Int) ∧ n = .int .i64 ((fold l n0 k : Nat) : Int) ∧ Hid (∀ i, i < k → cont (ent l (i + 1)))) (fun _ i => 5 - (intOf i).toNat)
    case atStart => exact ⟨0, by omega, rfl, rfl, Lib.hid (fun i hi => absurd hi (Nat.not_lt_zero i))⟩
    case round =>
      clear t1 t2 t3 t4 t5 t6 t7 t8
      obtain ⟨k, hk, rfl, rfl, HC⟩ := hrel
      have hF9 := fold_lt l n0 hn9 k (by omega)
      by_cases hlt : k < 3
      · obtain ⟨F, hF⟩ : ∃ F, F = fold l n0 k := ⟨_, rfl⟩
        rw [← hF] at hF9 ⊢
        have hk2 : k + 1 < s.size := by omega
        have hce : s[k + 1].toNat = ent l (k + 1) := by rw [HL.out]; exact at_ent s (k + 1) hk2
        have hc9 := s[k + 1].toNat_lt
        by_cases hc : cont (ent l (k + 1))
        · have HC2 : Hid (∀ i, i < k + 1 → cont (ent l (i + 1))) := Lib.hid (fun i hi => by
            by_cases h : i < k
            · exact HC.out i h
            · obtain rfl : i = k := by omega
              exact hc)
          have e2 : fold l n0 (k + 1) = 64 * F + (s[k + 1].toNat - 128) := by rw [hce, hF]; rfl
          unfold cont at hc
          have a1 : decide ((s[k + 1].toNat : Int) < 128) = false := decide_eq_false (by omega)
          have a2 : decide ((191 : Int) < (s[k + 1].toNat : Int)) = false := decide_eq_false (by omega)
          have hcc : 128 ≤ s[k + 1].toNat := by omega
          have E2 := Lib.hid e2
          clear hc hce hF e2
          go_wp2_with fail
          go_round
          case rel => exact ⟨k + 1, by omega, by go_num, by rw [E2.out]; go_num, HC2⟩
          case measure => simp [intOf]; omega
        · obtain rfl : x = 0 := by
            have h9 := HX2.out
            rw [if_pos (show ¬ (∀ i, i < 3 → cont (ent l (i + 1))) from fun h => hc (h k hlt))] at h9
            exact h9
          unfold cont at hc
          by_cases a : s[k + 1].toNat < 128
          · have a1 : decide ((s[k + 1].toNat : Int) < 128) = true := decide_eq_true (by omega)
            clear hc hce hF a
            go_wp2_with fail
            go_ret
            exact ⟨rfl, rfl⟩
          · have a1 : decide ((s[k + 1].toNat : Int) < 128) = false := decide_eq_false (by omega)
            have a2 : decide ((191 : Int) < (s[k + 1].toNat : Int)) = true := decide_eq_true (by omega)
            clear hc hce hF a
            go_wp2_with fail
            go_ret
            exact ⟨rfl, rfl⟩
      · obtain rfl : k = 3 := by omega
        have h9 := HX2.out
        rw [if_neg (show ¬ ¬ (∀ i, i < 3 → cont (ent l (i + 1))) from fun h => h HC.out)] at h9
        generalize fold l n0 3 = F at h9 hF9 ⊢
        by_cases a1 : F < 65536
        · rw [if_pos (Or.inl a1)] at h9
          subst h9
          have t1 : decide ((F : Int) < 65536) = true := decide_eq_true (by omega)
          go_wp2_with fail
          go_ret
          exact ⟨rfl, rfl⟩
        have t1 : decide ((F : Int) < 65536) = false := decide_eq_false (by omega)
        by_cases a2 : 1114111 < F
        · rw [if_pos (Or.inr (Or.inl a2))] at h9
          subst h9
          have t2 : decide ((1114111 : Int) < (F : Int)) = true := decide_eq_true (by omega)
          go_wp2_with fail
          go_ret
          exact ⟨rfl, rfl⟩
        have t2 : decide ((1114111 : Int) < (F : Int)) = false := decide_eq_false (by omega)
        by_cases a3 : 55295 < F
        · have t3 : decide ((55295 : Int) < (F : Int)) = true := decide_eq_true (by omega)
          by_cases a4 : F < 57344
          · rw [if_pos (Or.inr (Or.inr ⟨a3, a4⟩))] at h9
            subst h9
            have t4 : decide ((F : Int) < 57344) = true := decide_eq_true (by omega)
            go_wp2_with fail
            go_ret
            exact ⟨rfl, rfl⟩
          · rw [if_neg (by omega)] at h9
            subst h9
            have t4 : decide ((F : Int) < 57344) = false := decide_eq_false (by omega)
            go_wp2_with fail
            go_ret
            exact ⟨rfl, rfl⟩
        · rw [if_neg (by omega)] at h9
          subst h9
          have t3 : decide ((55295 : Int) < (F : Int)) = false := decide_eq_false (by omega)
          go_wp2_with fail
          go_ret
          exact ⟨rfl, rfl⟩
set_option maxRecDepth 100000 in
theorem point_low (s : ByteArray) (h0 : 0 < s.size) (hb : s[0].toNat < 128) : Ret 98 #[.string s] (.int .i64 1) := by
  intro w
  have hc9 : s[0].toNat < 256 := s[0].toNat_lt
  have t1 : decide ((s[0].toNat : Int) < 128) = true := decide_eq_true (by omega)
  clear hb
  go_enter Try.func98, Try.ntmps98
  go_wp2_with fail
  go_ret
  exact ⟨rfl, rfl⟩
set_option maxRecDepth 100000 in
theorem point_mid (s : ByteArray) (h0 : 0 < s.size) (h1 : 128 ≤ s[0].toNat) (hb : s[0].toNat < 192) : Ret 98 #[.string s] (.int .i64 0) := by
  intro w
  have hc9 : s[0].toNat < 256 := s[0].toNat_lt
  have t1 : decide ((s[0].toNat : Int) < 128) = false := decide_eq_false (by omega)
  have t2 : decide ((192 : Int) ≤ (s[0].toNat : Int)) = false := decide_eq_false (by omega)
  have t4 : decide ((224 : Int) ≤ (s[0].toNat : Int)) = false := decide_eq_false (by omega)
  have t6 : decide ((240 : Int) ≤ (s[0].toNat : Int)) = false := decide_eq_false (by omega)
  clear hb h1
  go_enter Try.func98, Try.ntmps98
  go_wp2_with fail
  go_ret
  exact ⟨rfl, rfl⟩
set_option maxRecDepth 100000 in
theorem point_top (s : ByteArray) (h0 : 0 < s.size) (h1 : 248 ≤ s[0].toNat) : Ret 98 #[.string s] (.int .i64 0) := by
  intro w
  have hc9 : s[0].toNat < 256 := s[0].toNat_lt
  have t1 : decide ((s[0].toNat : Int) < 128) = false := decide_eq_false (by omega)
  have t2 : decide ((192 : Int) ≤ (s[0].toNat : Int)) = true := decide_eq_true (by omega)
  have t3 : decide ((s[0].toNat : Int) < 224) = false := decide_eq_false (by omega)
  have t4 : decide ((224 : Int) ≤ (s[0].toNat : Int)) = true := decide_eq_true (by omega)
  have t5 : decide ((s[0].toNat : Int) < 240) = false := decide_eq_false (by omega)
  have t6 : decide ((240 : Int) ≤ (s[0].toNat : Int)) = true := decide_eq_true (by omega)
  have t7 : decide ((s[0].toNat : Int) < 248) = false := decide_eq_false (by omega)
  clear h1
  go_enter Try.func98, Try.ntmps98
  go_wp2_with fail
  go_ret
  exact ⟨rfl, rfl⟩
theorem point_ret (s : ByteArray) (h0 : 0 < s.size) (hm : s.size ≤ 1000000) (x : Nat) (hx : x = ptL s.data.toList) : Ret 98 #[.string s] (.int .i64 (x : Int)) := by
  have e := at_ent s 0 h0
  have h8 := s[0].toNat_lt
  unfold ptL at hx
  rw [← e] at hx
  by_cases a0 : s[0].toNat < 128
  · rw [if_pos a0] at hx
    subst hx
    exact point_low s h0 a0
  rw [if_neg a0] at hx
  by_cases a1 : 192 ≤ s[0].toNat ∧ s[0].toNat < 224
  · rw [if_pos a1] at hx
    exact point_1 s h0 hm _ rfl a1.1 a1.2 x hx
  rw [if_neg a1] at hx
  by_cases a2 : 224 ≤ s[0].toNat ∧ s[0].toNat < 240
  · rw [if_pos a2] at hx
    exact point_2 s h0 hm _ rfl a2.1 a2.2 x hx
  rw [if_neg a2] at hx
  by_cases a3 : 240 ≤ s[0].toNat ∧ s[0].toNat < 248
  · rw [if_pos a3] at hx
    exact point_3 s h0 hm _ rfl a3.1 a3.2 x hx
  rw [if_neg a3] at hx
  subst hx
  by_cases a4 : s[0].toNat < 192
  · exact point_mid s h0 (by omega) a4
  · exact point_top s h0 (by omega)
set_option maxRecDepth 100000 in
set_option maxHeartbeats 1000000 in
theorem utf_ret (s : ByteArray) (hm : s.size ≤ 1000000) (q : Bool) (hq : q = utfB s.data.toList) : Ret 88 #[.string s] (.bool q) := by
  intro w
  have HQ := Lib.hid hq
  clear hq
  go_enter Try.func88, Try.ntmps88
  go_wp2_with fail
  go_loop [0] (fun v => ∃ (R : ByteArray), v = .string R ∧ R.size ≤ s.size ∧ Hid (q = utfB R.data.toList)) (fun v => match v with | .string r => r.size | _ => 0)
  case atStart => exact ⟨s, rfl, Nat.le_refl _, HQ⟩
  case round =>
    clear HQ
    obtain ⟨R, rfl, hR, HQ⟩ := hrel
    have hlen : R.data.toList.length = R.size := rfl
    by_cases h0 : 0 < R.size
    · obtain ⟨x, hx⟩ : ∃ x, x = ptL R.data.toList := ⟨_, rfl⟩
      have c1 := point_ret R h0 (by omega) x hx
      by_cases hz : x = 0
      · subst hz
        obtain rfl : q = false := by rw [HQ.out]; exact utfB_bad _ (by omega) hx.symm
        clear hx
        go_wp2_with fail
        refine c1.calls ?_
        go_wp2_with fail
        go_ret
        exact ⟨rfl, rfl⟩
      · have hle : x ≤ R.size := by
          have : ptL R.data.toList ≤ R.data.toList.length := by
            cases hl : R.data.toList with
            | nil => rw [hl] at hlen; simp at hlen; omega
            | cons a t => exact pt_len a t
          omega
        obtain ⟨R2, hR2⟩ : ∃ R2, R2 = R.extract x R.size := ⟨_, rfl⟩
        have hR2s : R2.size = R.size - x := by rw [hR2, ByteArray.size_extract]; omega
        have HQ2 : Hid (q = utfB R2.data.toList) := Lib.hid (by
          rw [HQ.out, utfB_step _ (by omega) (by rw [← hx]; exact hz), ← hx, hR2, ext_list, List.take_of_length_le (by rw [List.length_drop]; omega)])
        have hR2' := hR2.symm
        have t1 : ((x : Int) == 0) = false := by rw [beq_eq_false_iff_ne]; omega
        clear hx hR2
        go_wp2_with fail
        refine c1.calls ?_
        go_wp2_with fail
        go_round
        case rel => exact ⟨R2, rfl, by omega, HQ2⟩
        case measure => simp; omega
    · obtain rfl : q = true := by rw [HQ.out, List.eq_nil_of_length_eq_zero (show R.data.toList.length = 0 by omega)]; rfl
      go_wp2_with fail
      go_ret
      exact ⟨rfl, rfl⟩
end RefUtf
end Go.Proofs.Ytihpndfjcgodiaa
