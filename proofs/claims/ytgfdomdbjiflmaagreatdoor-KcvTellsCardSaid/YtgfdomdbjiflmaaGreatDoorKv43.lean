/- Joined texts. -/
-- PACK: YtgfdomdbjiflmaaGreatDoorRefSched YtgfdomdbjiflmaaGreatDoorRefSched2 YtgfdomdbjiflmaaGreatDoorSchedAwake YtgfdomdbjiflmaaGreatDoorAes5 YtgfdomdbjiflmaaGreatDoorRefAes YtgfdomdbjiflmaaGreatDoorRefAes2
import Derived.Test.YtgfdomdbjiflmaaGreatDoorKv42
import Derived.Test.YtgfdomdbjiflmaaGreatDoorKv3
import Derived.Test.YtgfdomdbjiflmaaGreatDoorKv39
import Derived.Deep.RegionWith
import Derived.Deep.RegionHeld3
import Derived.IntWalk
import Derived.Test.YtgfdomdbjiflmaaGreatDoorKv12
import Derived.Test.YtgfdomdbjiflmaaGreatDoorKv36
import Derived.Laws.Tables
import Derived.Test.YtgfdomdbjiflmaaGreatDoorKv16

/- The reference of package sched. -/
namespace Go.Proofs.YtgfdomdbjiflmaaGreatDoor
open Go.RowKit
namespace RefSched
open Rnd Sched

set_option maxRecDepth 100000 in
theorem rounds_yes (m : Nat) (hm : m = 16 ∨ m = 24 ∨ m = 32) (x : Int) (hx : x = ((m / 4 + 6 : Nat) : Int)) : Ret 97 #[.int .i64 (m : Int)] (.int .i64 x) := by
  intro w
  subst hx
  rcases hm with rfl | rfl | rfl
  all_goals
    go_enter Tryz.func97, Tryz.ntmps97
    go_wp2_with fail
    go_ret
    exact ⟨rfl, rfl⟩
set_option maxRecDepth 100000 in
theorem rounds_no (n : Int) (h : n ≠ 16 ∧ n ≠ 24 ∧ n ≠ 32) : Ret 97 #[.int .i64 n] (.int .i64 0) := by
  intro w
  obtain ⟨h1, h2, h3⟩ := h
  have n1 : (n == 16) = false := beq_eq_false_iff_ne.2 h1
  have n2 : (n == 24) = false := beq_eq_false_iff_ne.2 h2
  have n3 : (n == 32) = false := beq_eq_false_iff_ne.2 h3
  clear h1 h2 h3
  go_enter Tryz.func97, Tryz.ntmps97
  go_wp2_with fail
  go_ret
  exact ⟨rfl, rfl⟩
set_option maxRecDepth 100000 in
theorem pow2 (a : Nat) (i : Int) (w : World) (ha : a ≤ 255) (hi : i ≤ 254) : Calls Tryz.prog 154 #[.int .u8 (a : Int), .int .i64 i] w fun e w' => e = .returned (.int .u8 ((Gf.pow a i.toNat : Nat) : Int)) ∧ w = w' := RefField.pow_ret a i w ha (by omega)
set_option maxRecDepth 100000 in
theorem const_any (i : Int) (c : Nat) (hc : c = conN i) : Ret 125 #[.int .i64 i] (.int .u8 (c : Int)) := by
  intro w
  by_cases h : 1 ≤ i ∧ i ≤ 255
  · obtain ⟨h1, h2⟩ := h
    have c1 : Ret 154 #[.int .u8 2, .int .i64 (i - 1)] (.int .u8 (c : Int)) := fun w => by
      rw [hc, conN, if_pos ⟨h1, h2⟩]
      exact pow2 2 (i - 1) w (by decide) (by omega)
    clear hc
    go_enter Tryz.func125, Tryz.ntmps125
    go_wp2_with fail
    refine (c1).calls ?_
    go_wp2_with fail
    go_ret
    exact ⟨rfl, rfl⟩
  · have hc0 : c = 0 := by rw [hc, conN, if_neg h]
    subst hc0
    clear hc
    by_cases h1 : i < 1
    · clear h
      go_enter Tryz.func125, Tryz.ntmps125
      go_wp2_with fail
      go_ret
      exact ⟨rfl, rfl⟩
    · have h2 : 255 < i := by omega
      clear h
      go_enter Tryz.func125, Tryz.ntmps125
      go_wp2_with fail
      go_ret
      exact ⟨rfl, rfl⟩
theorem xor_m (a b : ByteArray) (ha : a.size ≤ 140737488355328) (hb : b.size ≤ 140737488355328) (X : ByteArray) (hX : X = xorS a b) : Mak 70 #[.string a, .string b] (.string X) := fun w => by
  rw [hX]; exact RefOct.xor_any a b _ w rfl ha hb

def upw (l : List UInt8) (n j : Nat) : List ByteArray := if j ≤ n then Oct.pcs l 4 j else grow (first l n) n (j - n)
theorem upw_len (l : List UInt8) (n j : Nat) : (upw l n j).length = j := by
  unfold upw; split
  · rw [Oct.pcs_len]
  · rw [grow_len, first, Oct.pcs_len]; omega
theorem upw_lo (l : List UInt8) (n j : Nat) (h : j < n) : upw l n (j + 1) = upw l n j ++ [Oct.pc l 4 j] := by
  unfold upw; rw [if_pos (by omega), if_pos (by omega), Oct.pcs_succ]
theorem upw_n (l : List UInt8) (n k : Nat) : upw l n (n + k) = grow (first l n) n k := by
  unfold upw
  by_cases h : k = 0
  · subst h; rw [if_pos (by omega)]; rfl
  · rw [if_neg (by omega), Nat.add_sub_cancel_left]
theorem upw_hi (l : List UInt8) (n j : Nat) (h : n ≤ j) : upw l n (j + 1) = upw l n j ++ [word (upw l n j) j n] := by
  obtain ⟨k, rfl⟩ : ∃ k, j = n + k := ⟨j - n, by omega⟩
  rw [Nat.add_assoc, upw_n, upw_n]; rfl
theorem upw_size (l : List UInt8) (n j : Nat) (hn : 1 ≤ n) (hl : l.length = 4 * n) : ∀ x ∈ upw l n j, x.size = 4 := by
  unfold upw; split
  · rename_i hj
    intro x hx
    unfold Oct.pcs at hx
    obtain ⟨i, hi, rfl⟩ := List.mem_map.1 hx
    rw [List.mem_range] at hi
    unfold Oct.pc
    rw [size_bs, List.length_take, List.length_drop]
    omega
  · exact grow_size _ n _ hn (by unfold first; rw [Oct.pcs_len]) (first_size l n hl)
set_option maxRecDepth 100000 in
theorem conv4 (x : Int) (S : ByteArray) (hS : strOfNums [x, 0, 0, 0] = S) : ∀ (W : World) (g : Nat), W.cell? ⟨g, 0, none⟩ = some (.int .u8 x) → W.cell? ⟨g, 1, none⟩ = some (.int .u8 0) → W.cell? ⟨g, 2, none⟩ = some (.int .u8 0) → W.cell? ⟨g, 3, none⟩ = some (.int .u8 0) → ∀ dst, Tryz.prog.underlying dst = some .string → (convert 86 dst (.slice (some ⟨g, 0, none⟩) 4 4)).run Tryz.prog W = .ok (.string S) W := by
  subst hS
  intro W g h0 h1 h2 h3
  refine run_convert_bytes_arg (P := Tryz.prog) W 86 5 Tryz.underlying86 Tryz.underlying5 g 0 4 4 [x, 0, 0, 0] rfl fun i hi => ?_
  have hii : i = 0 ∨ i = 1 ∨ i = 2 ∨ i = 3 := by omega
  rcases hii with rfl | rfl | rfl | rfl
  · exact h0
  · exact h1
  · exact h2
  · exact h3
end RefSched
end Go.Proofs.YtgfdomdbjiflmaaGreatDoor

/- The reference of package sched: all words, and the keys of rounds. -/
namespace Go.Proofs.YtgfdomdbjiflmaaGreatDoor
open Go.RowKit
namespace RefSched
open Rnd Sched

theorem pkclosed (w0 : World) : PK w0 (.slice none 0 0) [] w0 := ⟨Since.refl w0, World.ownsRow_nil _ _ _ _⟩
theorem subs_4 (s : ByteArray) (hs : s.size = 4) (X : ByteArray) (hX : X = bs (subL s.data.toList)) : Mak 124 #[.string s] (.string X) := RefRnd.subs_m s (by omega) X hX
set_option maxRecDepth 100000 in
set_option maxHeartbeats 8000000 in
theorem words_mak (key : ByteArray) (n : Nat) (hn : n = 4 ∨ n = 6 ∨ n = 8) (hk : key.size = 4 * n) : MakS 98 #[.string key] (wordsL key.data.toList n) := by
  intro w
  obtain ⟨l, hl0⟩ : ∃ l, l = key.data.toList := ⟨_, rfl⟩
  have hl : l.length = 4 * n := by rw [hl0]; exact hk
  have c1 : Ret 97 #[.int .i64 (key.size : Int)] (.int .i64 ((n : Int) + 6)) := by
    rw [hk]; exact rounds_yes (4 * n) (by omega) _ (by omega)
  have hd4 : (key.size : Int) / 4 = (n : Int) := by omega
  have hki : (key.size : Int) = 4 * (n : Int) := by omega
  have hwl : wordsL key.data.toList n = upw l n (4 * n + 28) := by rw [← hl0, show 4 * n + 28 = n + (3 * n + 28) from by omega, upw_n]; rfl
  rw [hwl]
  have hn1 : 4 ≤ n ∧ n ≤ 8 := by omega
  obtain ⟨hn4, hn8⟩ := hn1
  have hb0 : (((n : Int) + 6) == 0) = false := by rw [beq_eq_false_iff_ne]; omega
  have HN := Lib.hid hn
  have HL0 := Lib.hid hl0
  have HL := Lib.hid hl
  have HK := Lib.hid hk
  have HKI := Lib.hid hki
  clear hwl hl hk hn hl0 hki
  go_enter Tryz.func98, Tryz.ntmps98
  go_wp2_with fail
  refine (c1).calls ?_
  go_wp2_with fail
  go_loopw [3, 5] (fun v i wr => ∃ j : Nat, j ≤ 4 * n + 28 ∧ j ≤ 60 ∧ i = .int .i64 (j : Int) ∧ Hid (PK w v (upw l n j) wr)) (fun _ i _ => 60 - (intOf i).toNat)
  case atStart => exact ⟨0, by omega, by omega, rfl, Lib.hid (pkclosed w)⟩
  case round =>
    obtain ⟨j, hj, hj60, rfl, HP⟩ := hrel
    by_cases hlt : j < 4 * n + 28
    · have i5 : (j : Int) < 4 * ((n : Int) + 6) + 4 := by omega
      have hj9 : j ≤ 1099511627776 := by omega
      by_cases hjn : j < n
      · obtain ⟨Pc, hPc⟩ : ∃ Pc, key.extract (4 * j) (4 * j + 4) = Pc := ⟨_, rfl⟩
        have hup := upw_lo l n j hjn
        have hpc : Oct.pc l 4 j = Pc := by
          rw [← hPc]
          apply ba_ext
          unfold Oct.pc
          rw [ext_list, list_bs, HL0.out]
          congr 1
          omega
        rw [hpc] at hup
        have hb1 : 4 * (j : Int) + 4 ≤ (key.size : Int) := by rw [HKI.out]; omega
        have hji : (j : Int) < (n : Int) := by omega
        obtain ⟨ss, hss⟩ : ∃ ss, ss = upw l n j := ⟨_, rfl⟩
        have hsl : ss.length = j := by rw [hss, upw_len]
        rw [← hss] at HP hup
        have Hup := Lib.hid hup
        clear hup
        have Hsl := Lib.hid hsl
        clear hsl
        clear hss hpc
        go_wp2_with fail
        refine (c1).calls ?_
        go_wp2_with (at_builtin; refine app_one elemS rfl _ _ (by rfl) w wr _ j _ (by rfl) (pkown HP Hsl.out) HP.out.since _ (by rfl) rfl hj9 (by decide) ?_)
        intro v8 w8 ho8 hS8
        have hp8 : Hid (PK w v8 (upw l n (j + 1)) w8) := Lib.hid ⟨hS8, by rw [Hup.out]; unfold Strs; rw [List.length_append, List.map_append, Hsl.out]; exact ho8⟩
        clear ho8 hS8
        go_wp2_with fail
        go_roundw
        case rel => exact ⟨j + 1, by omega, by omega, by go_num, hp8⟩
        case measure => simp [intOf]; omega
      · have hji : ¬ (j : Int) < (n : Int) := by omega
        have hup := upw_hi l n j (by omega)
        have hs4 := upw_size l n j (by omega) HL.out
        obtain ⟨ss, hss⟩ : ∃ ss, ss = upw l n j := ⟨_, rfl⟩
        have hsl : ss.length = j := by rw [hss, upw_len]
        rw [← hss] at HP hup hs4
        obtain ⟨g2, cap2, hv⟩ := Strs.form HP.out.own (by omega)
        rw [hsl] at hv
        subst hv
        obtain ⟨m, hm⟩ : ∃ m, m = j - 1 := ⟨_, rfl⟩
        obtain ⟨k, hkk⟩ : ∃ k, k = j - n := ⟨_, rfl⟩
        obtain ⟨A, hA⟩ : ∃ A, A = ss.getD k ⟨#[]⟩ := ⟨_, rfl⟩
        obtain ⟨B, hB⟩ : ∃ B, B = ss.getD m ⟨#[]⟩ := ⟨_, rfl⟩
        have hA4 : A.size = 4 := hs4 A (by rw [hA, List.getD, List.getElem?_eq_getElem (show k < ss.length by omega)]; exact List.getElem_mem _)
        have hB4 : B.size = 4 := hs4 B (by rw [hB, List.getD, List.getElem?_eq_getElem (show m < ss.length by omega)]; exact List.getElem_mem _)
        have a1 : ∀ W, Hid (PK w (.slice (some ⟨g2, 0, none⟩) j cap2) ss W) → W.cell? ⟨g2, k, none⟩ = some (.string A) := fun W h => by rw [hA]; exact pkcell h k (by omega)
        have m0 : wr.cell? ⟨g2, m, none⟩ = some (.string B) := by rw [hB]; exact pkcell HP m (by omega)
        obtain ⟨T, hT⟩ : ∃ T, T = trans B j n := ⟨_, rfl⟩
        have hT4 : T.size = 4 := by rw [hT]; exact trans_size _ _ _ hB4
        obtain ⟨Y, hY⟩ : ∃ Y, Y = xorS A T := ⟨_, rfl⟩
        have c4 := xor_m A T (by omega) (by omega) Y hY
        have hup2 : upw l n (j + 1) = ss ++ [Y] := by
          rw [hup, hY, hT, hA, hB]
          unfold word
          rw [← hm, ← hkk]
        have A1 := Lib.hid a1
        have e1 : (j : Int) - (n : Int) = (k : Int) := by omega
        have e2 : (j : Int) - 1 = (m : Int) := by omega
        have i1 : (k : Int) < (j : Int) := by omega
        have i2 : (m : Int) < (j : Int) := by omega
        have hup := hup2
        have em : (j : Int) % (n : Int) = ((j % n : Nat) : Int) := by simp
        have hBl : B.data.toList.length = 4 := hB4
        have hBi : (B.size : Int) = 4 := by omega
        have HB4 := Lib.hid hB4
        clear a1 hY hA hB hss hs4 hm hkk hup2 hA4 hT4
        have Hup := Lib.hid hup
        clear hup
        have Hsl := Lib.hid hsl
        clear hsl
        by_cases h0 : j % n = 0
        · have f1 : (j : Int) % (n : Int) = 0 := by omega
          obtain ⟨q, hq⟩ : ∃ q, q = j / n := ⟨_, rfl⟩
          have f2 : (j : Int) / (n : Int) = (q : Int) := by rw [hq]; simp
          have hq60 : q ≤ 60 := by rw [hq]; exact Nat.le_trans (Nat.div_le_self _ _) hj60
          obtain ⟨P1, hP1⟩ : ∃ P1, B.extract 1 4 = P1 := ⟨_, rfl⟩
          obtain ⟨P2, hP2⟩ : ∃ P2, B.extract 0 1 = P2 := ⟨_, rfl⟩
          obtain ⟨J, hJ⟩ : ∃ J, P1 ++ P2 = J := ⟨_, rfl⟩
          have hJl : J.data.toList = rot B.data.toList := by
            rw [← hJ, app_list, ← hP1, ← hP2, ext_list, ext_list]; rfl
          have hJs : J.size = 4 := by
            show J.data.toList.length = 4
            rw [hJl, rot]; simp [hBl]
          have hz1 : P1.size = 3 := by rw [← hP1]; simp; omega
          have hz2 : P2.size = 1 := by rw [← hP2]; simp; omega
          have hsz : ¬ 9223372036854775807 < P1.size + P2.size := by omega
          obtain ⟨S, hS⟩ : ∃ S, S = bs (subL J.data.toList) := ⟨_, rfl⟩
          have c5 := subs_4 J hJs S hS
          have hSs : S.size = 4 := by rw [hS, size_bs, subL_len]; exact hJs
          obtain ⟨c, hc⟩ : ∃ c, c = conN ((q : Nat) : Int) := ⟨_, rfl⟩
          have hc256 : c < 256 := by rw [hc]; exact conN_lt _
          have c6 := const_any (q : Int) c hc
          obtain ⟨R, hR⟩ : ∃ R, R = bs [UInt8.ofNat c, 0, 0, 0] := ⟨_, rfl⟩
          have K1 := conv4 (c : Int) R (by rw [hR]; rfl)
          have hRs : R.size = 4 := by rw [hR]; rfl
          have c7 := xor_m S R (by omega) (by omega) T (by
            rw [hT]; unfold Sched.trans; rw [if_pos h0, hS, hR, hJl, hc, hq])
          clear hT hS hR hc hq hJl hz1 hz2 hJs hSs hRs em h0 hBl
          go_wp2_with fail
          refine (c1).calls ?_
          go_wp2_with fail
          go_region_with (first | (go_at_call 124; refine (c5 _).mono ?_; rintro e w5 ⟨rfl, h5⟩; have hp5 := pkstep h5 (by first | assumption | exact pkdrew (by assumption)); clear h5))
          all_goals
            go_wp2_with fail
            refine (c6).calls ?_
            go_wp2_with fail
            refine (c7 _).mono ?_
            rintro e w6 ⟨rfl, h6⟩
            have hp6 := pkstep h6 (by first | exact pkalloc _ hp5 | exact pkalloc _ (pkdrew hp5) | exact pkdrew (pkalloc _ hp5))
            clear h6
            have kA := A1.out _ hp6
            go_wp2_with fail
            refine (c4 _).mono ?_
            rintro e w7 ⟨rfl, h7⟩
            have hp7 := pkstep h7 (hp6)
            clear h7 kA
            go_wp2_with (at_builtin; refine app_one elemS rfl _ _ (by rfl) w w7 _ j _ (by rfl) (pkown hp7 Hsl.out) hp7.out.since _ (by rfl) rfl hj9 (by decide) ?_)
            intro v8 w8 ho8 hS8
            have hp8 : Hid (PK w v8 (upw l n (j + 1)) w8) := Lib.hid ⟨hS8, by rw [Hup.out]; unfold Strs; rw [List.length_append, List.map_append, Hsl.out]; exact ho8⟩
            clear ho8 hS8
            go_wp2_with fail
            go_roundw
            case rel => exact ⟨j + 1, by omega, by omega, by go_num, hp8⟩
            case measure => simp [intOf]; omega
        · have f1 : ((j : Int) % (n : Int) == 0) = false := by rw [em, beq_eq_false_iff_ne]; omega
          by_cases h8 : n = 8 ∧ j % 8 = 4
          · obtain ⟨h88, h4⟩ := h8
            have f2 : (j : Int) % 8 = 4 := by omega
            have f3 : ((n : Int) == 8) = true := by rw [h88]; rfl
            have c5 := subs_4 B HB4.out T (by rw [hT]; unfold Sched.trans; rw [if_neg h0, if_pos ⟨h88, h4⟩])
            clear h88
            clear hT em h0 h4 hBl
            go_wp2_with fail
            refine (c1).calls ?_
            go_wp2_with fail
            refine (c5 _).mono ?_
            rintro e w5 ⟨rfl, h5⟩
            have hp5 := pkstep h5 HP
            clear h5
            have kA := A1.out _ hp5
            go_wp2_with fail
            refine (c4 _).mono ?_
            rintro e w7 ⟨rfl, h7⟩
            have hp7 := pkstep h7 (hp5)
            clear h7 kA
            go_wp2_with (at_builtin; refine app_one elemS rfl _ _ (by rfl) w w7 _ j _ (by rfl) (pkown hp7 Hsl.out) hp7.out.since _ (by rfl) rfl hj9 (by decide) ?_)
            intro v8 w8 ho8 hS8
            have hp8 : Hid (PK w v8 (upw l n (j + 1)) w8) := Lib.hid ⟨hS8, by rw [Hup.out]; unfold Strs; rw [List.length_append, List.map_append, Hsl.out]; exact ho8⟩
            clear ho8 hS8
            go_wp2_with fail
            go_roundw
            case rel => exact ⟨j + 1, by omega, by omega, by go_num, hp8⟩
            case measure => simp [intOf]; omega
          · have hXt : T = B := by rw [hT]; unfold Sched.trans; rw [if_neg h0, if_neg h8]
            subst hXt
            by_cases hn9 : n = 8
            · have f3 : ((n : Int) == 8) = true := by rw [hn9]; rfl
              have f2 : ((j : Int) % 8 == 4) = false := by rw [beq_eq_false_iff_ne]; omega
              clear hT em h0 h8 hBl hn9
              have kA := A1.out _ HP
              go_wp2_with fail
              refine (c1).calls ?_
              go_wp2_with fail
              refine (c4 _).mono ?_
              rintro e w7 ⟨rfl, h7⟩
              have hp7 := pkstep h7 (HP)
              clear h7 kA
              go_wp2_with (at_builtin; refine app_one elemS rfl _ _ (by rfl) w w7 _ j _ (by rfl) (pkown hp7 Hsl.out) hp7.out.since _ (by rfl) rfl hj9 (by decide) ?_)
              intro v8 w8 ho8 hS8
              have hp8 : Hid (PK w v8 (upw l n (j + 1)) w8) := Lib.hid ⟨hS8, by rw [Hup.out]; unfold Strs; rw [List.length_append, List.map_append, Hsl.out]; exact ho8⟩
              clear ho8 hS8
              go_wp2_with fail
              go_roundw
              case rel => exact ⟨j + 1, by omega, by omega, by go_num, hp8⟩
              case measure => simp [intOf]; omega
            · have f2 : ((n : Int) == 8) = false := by rw [beq_eq_false_iff_ne]; omega
              clear hT em h0 h8 hBl hn9
              have kA := A1.out _ HP
              go_wp2_with fail
              refine (c1).calls ?_
              go_wp2_with fail
              refine (c4 _).mono ?_
              rintro e w7 ⟨rfl, h7⟩
              have hp7 := pkstep h7 (HP)
              clear h7 kA
              go_wp2_with (at_builtin; refine app_one elemS rfl _ _ (by rfl) w w7 _ j _ (by rfl) (pkown hp7 Hsl.out) hp7.out.since _ (by rfl) rfl hj9 (by decide) ?_)
              intro v8 w8 ho8 hS8
              have hp8 : Hid (PK w v8 (upw l n (j + 1)) w8) := Lib.hid ⟨hS8, by rw [Hup.out]; unfold Strs; rw [List.length_append, List.map_append, Hsl.out]; exact ho8⟩
              clear ho8 hS8
              go_wp2_with fail
              go_roundw
              case rel => exact ⟨j + 1, by omega, by omega, by go_num, hp8⟩
              case measure => simp [intOf]; omega
    · obtain rfl : j = 4 * n + 28 := by omega
      have i5 : ¬ ((4 * n + 28 : Nat) : Int) < 4 * ((n : Int) + 6) + 4 := by omega
      go_wp2_with fail
      refine (c1).calls ?_
      go_wp2_with fail
      go_ret
      exact ⟨_, rfl, HP.out.own, HP.out.since⟩

set_option maxRecDepth 100000 in
theorem words_no (key : ByteArray) (hm : key.size ≤ 1000000) (h : key.size ≠ 16 ∧ key.size ≠ 24 ∧ key.size ≠ 32) : Ret 98 #[.string key] (.slice none 0 0) := by
  intro w
  have c1 := rounds_no (key.size : Int) (by omega)
  clear h
  go_enter Tryz.func98, Tryz.ntmps98
  go_wp2_with fail
  refine (c1).calls ?_
  go_wp2_with fail
  go_ret
  exact ⟨rfl, rfl⟩
set_option maxRecDepth 100000 in
theorem keys_no (key : ByteArray) (_hm : key.size ≤ 1000000) (h : key.size ≠ 16 ∧ key.size ≠ 24 ∧ key.size ≠ 32) : Ret 72 #[.string key] (.tuple #[.slice none 0 0, .int .i64 2]) := by
  intro w
  have c1 := rounds_no (key.size : Int) (by omega)
  clear h
  go_enter Tryz.func72, Tryz.ntmps72
  go_wp2_with fail
  refine (c1).calls ?_
  go_wp2_with fail
  go_ret2
  exact ⟨rfl, rfl⟩
theorem quad (ws : List ByteArray) (h : ∀ x ∈ ws, x.size = 4) (k : Nat) (hk : 4 * k + 4 ≤ ws.length) (A B C D : ByteArray) (hA : A = ws.getD (4 * k) ⟨#[]⟩) (hB : B = ws.getD (4 * k + 1) ⟨#[]⟩) (hC : C = ws.getD (4 * k + 2) ⟨#[]⟩) (hD : D = ws.getD (4 * k + 3) ⟨#[]⟩) :
    A ++ B ++ C ++ D = Oct.pc (Oct.cat ws) 16 k := by
  have e : ws.drop (4 * k) = A :: B :: C :: D :: ws.drop (4 * k + 4) := by
    rw [hA, hB, hC, hD]
    rw [List.drop_eq_getElem_cons (show 4 * k < ws.length by omega), List.drop_eq_getElem_cons (show 4 * k + 1 < ws.length by omega), List.drop_eq_getElem_cons (show 4 * k + 1 + 1 < ws.length by omega), List.drop_eq_getElem_cons (show 4 * k + 1 + 1 + 1 < ws.length by omega)]
    simp [List.getD, List.getElem?_eq_getElem (show 4 * k < ws.length by omega), List.getElem?_eq_getElem (show 4 * k + 1 < ws.length by omega), List.getElem?_eq_getElem (show 4 * k + 2 < ws.length by omega), List.getElem?_eq_getElem (show 4 * k + 3 < ws.length by omega)]
  have s4 : ∀ x ∈ ws.drop (4 * k), x.data.toList.length = 4 := fun x hx => h x (List.mem_of_mem_drop hx)
  rw [e] at s4
  have sA := s4 A (by simp)
  have sB := s4 B (by simp)
  have sC := s4 C (by simp)
  have sD := s4 D (by simp)
  apply ba_ext
  unfold Oct.pc
  rw [list_bs, show 16 * k = 4 * (4 * k) from by omega, cat_drop4 ws h, e, app_list, app_list, app_list]
  simp only [cat_cons]
  rw [← List.append_assoc, ← List.append_assoc, ← List.append_assoc, List.take_left' (by simp only [List.length_append]; omega)]
set_option maxRecDepth 100000 in
set_option maxHeartbeats 8000000 in
theorem keys_yes (key : ByteArray) (n : Nat) (hn : n = 4 ∨ n = 6 ∨ n = 8) (hk : key.size = 4 * n) : MakE 72 #[.string key] (keysL key.data.toList n) 0 := by
  intro w
  have hl : key.data.toList.length = 4 * n := hk
  have c1 : Ret 97 #[.int .i64 (key.size : Int)] (.int .i64 ((n : Int) + 6)) := by
    rw [hk]; exact rounds_yes (4 * n) (by omega) _ (by omega)
  have c2 := words_mak key n hn hk
  have hw4 := wordsL_size key.data.toList n (by omega) hl
  obtain ⟨ws, hws⟩ : ∃ ws, ws = wordsL key.data.toList n := ⟨_, rfl⟩
  have hwl : ws.length = 4 * n + 28 := by rw [hws, wordsL_len]
  have hkl : keysL key.data.toList n = Oct.pcs (Oct.cat ws) 16 (n + 7) := by rw [hws]; rfl
  rw [← hws] at c2 hw4
  rw [hkl]
  have hb0 : (((n : Int) + 6) == 0) = false := by rw [beq_eq_false_iff_ne]; omega
  have H0 := Lib.hid (Since.refl w)
  have hn48 : 4 ≤ n ∧ n ≤ 8 := by omega
  obtain ⟨hn4, hn8⟩ := hn48
  clear hkl hws hl hk hn
  have Hw4 := Lib.hid hw4
  clear hw4
  have Hwl := Lib.hid hwl
  clear hwl
  go_enter Tryz.func72, Tryz.ntmps72
  go_wp2_with fail
  refine (c1).calls ?_
  go_wp2_with fail
  refine (c2 w).mono ?_
  rintro e w1 ⟨v1, rfl, ho1, h1⟩
  obtain ⟨g, cap, hv⟩ := Strs.form ho1 (by rw [Hwl.out]; omega)
  obtain ⟨N, hN⟩ : ∃ N, N = 4 * n + 28 := ⟨_, rfl⟩
  rw [Hwl.out, ← hN] at hv
  subst hv
  have P1 : Hid (PK w (.slice (some ⟨g, 0, none⟩) N cap) ws w1) := Lib.hid ⟨h1, ho1⟩
  have HN := Lib.hid hN
  have hN60 : N ≤ 60 := by omega
  have H1 := Lib.hid h1
  have hg1 : g < w1.heap.size := by
    have h9 := pkcell P1 0 (by rw [Hwl.out]; omega)
    exact block_lt_of_cell h9
  clear ho1 h1 hN
  go_wp2_with fail
  go_loopw [5, 6] (fun v i wr => ∃ k q : Nat, k ≤ n + 7 ∧ q ≤ 60 ∧ Hid (q = 4 * k) ∧ i = .int .i64 (q : Int) ∧ Hid (PK w1 v (Oct.pcs (Oct.cat ws) 16 k) wr)) (fun _ i _ => 60 - (intOf i).toNat)
  case atStart => exact ⟨0, 0, by omega, by omega, Lib.hid rfl, rfl, Lib.hid (pkclosed w1)⟩
  case round =>
    obtain ⟨k, q, hk, hq60, HQ, rfl, HP⟩ := hrel
    have hq := HQ.out
    have hNN := HN.out
    by_cases hlt : k < n + 7
    · have hqN : q + 3 < N := by omega
      obtain ⟨A, hA⟩ : ∃ A, A = ws.getD q ⟨#[]⟩ := ⟨_, rfl⟩
      obtain ⟨B, hB⟩ : ∃ B, B = ws.getD (q + 1) ⟨#[]⟩ := ⟨_, rfl⟩
      obtain ⟨C, hC⟩ : ∃ C, C = ws.getD (q + 2) ⟨#[]⟩ := ⟨_, rfl⟩
      obtain ⟨D, hD⟩ : ∃ D, D = ws.getD (q + 3) ⟨#[]⟩ := ⟨_, rfl⟩
      have hcell : ∀ i, i < N → ∀ W, Since w1 W → W.cell? ⟨g, i, none⟩ = some (.string (ws.getD i ⟨#[]⟩)) := fun i hi W hW => (hW.below.cell (p := ⟨g, i, none⟩) hg1).trans (pkcell P1 i (by rw [Hwl.out]; omega))
      have hS : ∀ W, Hid (Since w1 W) → Hid (Since w1 W) ∧ W.cell? ⟨g, q, none⟩ = some (.string A) ∧ W.cell? ⟨g, q + 1, none⟩ = some (.string B) ∧ W.cell? ⟨g, q + 2, none⟩ = some (.string C) ∧ W.cell? ⟨g, q + 3, none⟩ = some (.string D) := fun W hW =>
        ⟨hW, by rw [hA]; exact hcell q (by omega) W hW.out, by rw [hB]; exact hcell (q + 1) (by omega) W hW.out, by rw [hC]; exact hcell (q + 2) (by omega) W hW.out, by rw [hD]; exact hcell (q + 3) (by omega) W hW.out⟩
      have hqd := quad ws Hw4.out k (by rw [Hwl.out]; omega) A B C D (by rw [hA, hq]) (by rw [hB, hq]) (by rw [hC, hq]) (by rw [hD, hq])
      have sz : ∀ i, i < N → (ws.getD i ⟨#[]⟩).size = 4 := fun i hi => Hw4.out _ (by rw [List.getD, List.getElem?_eq_getElem (show i < ws.length by rw [Hwl.out]; omega)]; exact List.getElem_mem _)
      have sA : A.size = 4 := by rw [hA]; exact sz q (by omega)
      have sB : B.size = 4 := by rw [hB]; exact sz (q + 1) (by omega)
      have sC : C.size = 4 := by rw [hC]; exact sz (q + 2) (by omega)
      have sD : D.size = 4 := by rw [hD]; exact sz (q + 3) (by omega)
      obtain ⟨AB, hAB⟩ : ∃ AB, A ++ B = AB := ⟨_, rfl⟩
      have sAB : AB.size = 8 := by rw [← hAB, ByteArray.size_append]; omega
      rw [hAB] at hqd
      obtain ⟨ABC, hABC⟩ : ∃ ABC, AB ++ C = ABC := ⟨_, rfl⟩
      have sABC : ABC.size = 12 := by rw [← hABC, ByteArray.size_append]; omega
      rw [hABC] at hqd
      obtain ⟨Y, hY⟩ : ∃ Y, ABC ++ D = Y := ⟨_, rfl⟩
      rw [hY] at hqd
      have z1 : ¬ 9223372036854775807 < A.size + B.size := by omega
      have z2 : ¬ 9223372036854775807 < AB.size + C.size := by omega
      have z3 : ¬ 9223372036854775807 < ABC.size + D.size := by omega
      obtain ⟨ss, hss⟩ : ∃ ss, ss = Oct.pcs (Oct.cat ws) 16 k := ⟨_, rfl⟩
      have hsl : ss.length = k := by rw [hss, Oct.pcs_len]
      have hup : Oct.pcs (Oct.cat ws) 16 (k + 1) = ss ++ [Y] := by rw [Oct.pcs_succ, hss, ← hqd]
      rw [← hss] at HP
      have HS := Lib.hid hS
      have hs0 : Hid (Since w1 wr) := Lib.hid HP.out.since
      have w1' : IntKind.i64.wrap ((q : Int) + 1) = (q : Int) + 1 := IntWalk.i64_in _ (by omega)
      have w2' : IntKind.i64.wrap ((q : Int) + 2) = (q : Int) + 2 := IntWalk.i64_in _ (by omega)
      have w3' : IntKind.i64.wrap ((q : Int) + 3) = (q : Int) + 3 := IntWalk.i64_in _ (by omega)
      have t1 : ((q : Int) + 1).toNat = q + 1 := by omega
      have t2 : ((q : Int) + 2).toNat = q + 2 := by omega
      have t3 : ((q : Int) + 3).toNat = q + 3 := by omega
      have b0 : (0 : Int) ≤ (q : Int) := by omega
      have b1 : (q : Int) < (N : Int) := by omega
      have b2 : (0 : Int) ≤ (q : Int) + 1 := by omega
      have b3 : (q : Int) + 1 < (N : Int) := by omega
      have b4 : (0 : Int) ≤ (q : Int) + 2 := by omega
      have b5 : (q : Int) + 2 < (N : Int) := by omega
      have b6 : (0 : Int) ≤ (q : Int) + 3 := by omega
      have b7 : (q : Int) + 3 < (N : Int) := by omega
      have hk9 : k ≤ 1099511627776 := by omega
      clear hS hcell hA hB hC hD sz hss hqd hq hNN sA sB sC sD sAB sABC
      have Hsl := Lib.hid hsl
      clear hsl
      have Hup := Lib.hid hup
      clear hup
      go_wp2_with fail
      go_region_held3 (fun W => Hid (Since w1 W) ∧ W.cell? ⟨g, q, none⟩ = some (.string A) ∧ W.cell? ⟨g, q + 1, none⟩ = some (.string B) ∧ W.cell? ⟨g, q + 2, none⟩ = some (.string C) ∧ W.cell? ⟨g, q + 3, none⟩ = some (.string D))
        (first | exact HS.out _ (by assumption) | exact HS.out _ (Lib.hid hs0.out.drew) | exact HS.out _ (Lib.hid (hs0.out.alloc _)) | exact HS.out _ (Lib.hid ((hs0.out.alloc _).drew)) | exact HS.out _ (Lib.hid ((hs0.out.drew).alloc _)))
        (first | (refine step_one elemS rfl _ _ (by rfl) w1 _ _ k (ss.map Value.string) (by rfl) (by first | exact (pkown HP Hsl.out).alloc _ | exact ((pkown HP Hsl.out).drew).alloc _ | exact ((pkown HP Hsl.out).alloc _).drew) (by first | exact hs0.out.alloc _ | exact (hs0.out.drew).alloc _ | exact (hs0.out.alloc _).drew) _ (.string Y) (by rfl) (by simp [go_sem]) rfl hk9 (by decide) ?_; intro v7 w7 hown7 hS7; have hs7 : Hid (Since w1 w7) := Lib.hid hS7))
      all_goals
        go_wp2_with fail
        go_roundw
        case rel => exact ⟨k + 1, q + 4, by omega, by have := HQ.out; have := HN.out; omega, Lib.hid (by have := HQ.out; omega), by go_num, Lib.hid ⟨by first | exact hS7 | exact Since.drew hS7, by rw [Hup.out]; unfold Strs; rw [List.length_append, List.map_append, Hsl.out]; exact hown7⟩⟩
        case measure => simp [intOf]; omega
    · obtain rfl : k = n + 7 := by omega
      have b1 : ¬ (q : Int) < (N : Int) := by omega
      clear hq hNN
      go_wp2_with fail
      go_ret2
      exact ⟨_, rfl, Strs.read HP.out.own, Since.below (Since.step H1.out HP.out.since)⟩
end RefSched
end Go.Proofs.YtgfdomdbjiflmaaGreatDoor

/- What the law calls awake, for layer 8. -/
namespace Go.Proofs.YtgfdomdbjiflmaaGreatDoor
open Go.RowKit
namespace Sched

set_option maxRecDepth 100000 in
theorem MakE.calls {f : Nat} {args : Array Value} {ss : List ByteArray} {e : Int} (h : MakE f args ss e) {W0 w : World} (hs : Since W0 w) {R : Ending → World → Prop} (k : ∀ v w', StrsR w' v ss → Below w.heap.size w w' → Since W0 w' → R (.returned (.tuple #[v, .int .i64 e])) w') : Calls Tryz.prog f args w R :=
  (h w).mono fun _ _ ⟨v, he, ho, hb⟩ => by subst he; exact k v _ ho hb (hs.step hb)
theorem StrsR.nil (w : World) : StrsR w (.slice none 0 0) [] := ⟨Nat.zero_le _, none, 0, rfl, Or.inl rfl⟩
theorem MakE.nil {f : Nat} {args : Array Value} {e : Int} (h : Ret f args (.tuple #[.slice none 0 0, .int .i64 e])) : MakE f args [] e := fun w => (h w).mono fun _ _ ⟨he, hw⟩ => ⟨_, he, by subst hw; exact ⟨StrsR.nil _, Below.refl _ _⟩⟩
theorem MakS.nil {f : Nat} {args : Array Value} (h : Ret f args (.slice none 0 0)) : MakS f args [] := fun w => (h w).mono fun _ _ ⟨he, hw⟩ => ⟨_, he, by subst hw; exact ⟨World.ownsRow_nil _ _ _ _, Below.refl _ _⟩⟩
theorem StrsR.form {w : World} {v : Value} {ss : List ByteArray} (h : StrsR w v ss) (hn : 0 < ss.length) : ∃ b o c : Nat, v = .slice (some ⟨b, o, none⟩) ss.length c ∧ b < w.heap.size ∧ ∀ i, i < ss.length → w.cell? ⟨b, o + i, none⟩ = some (.string (ss.getD i ⟨#[]⟩)) := by
  obtain ⟨_, A, c, rfl, h2⟩ := h
  rcases h2 with rfl | ⟨ad, rfl, hlt, hc⟩
  · simp at hn
  · obtain ⟨b, o, sp⟩ := ad
    have hsp : sp = none := by simpa [Addr.add] using World.cell?_spot (hc 0 hn)
    subst hsp
    exact ⟨b, o, c, rfl, hlt, fun i hi => by
      have hadd : (⟨b, o, none⟩ : Addr).add i = ⟨b, o + i, none⟩ := by unfold Addr.add; split <;> simp_all
      rw [← hadd]; exact hc i hi⟩
end Sched
end Go.Proofs.YtgfdomdbjiflmaaGreatDoor

/- Package aes: a cipher: made, asked for its size, a block read. -/
namespace Go.Proofs.YtgfdomdbjiflmaaGreatDoor
open Go.RowKit
namespace Aes
open Rnd

/-- a cipher's cells when k keys are laid -/
def cipF (ks : List ByteArray) (len r : Int) (k p : Nat) : Value :=
  if p < 1792 then tabV p else if p = 1792 then .int .i64 len else if p = 1793 then .int .i64 r else if p < 1794 + 16 * k then blV (rk ks ((p - 1794) / 16)) ((p - 1794) % 16) else .int .u8 0
/-- a cipher with the keys ks lies in block c -/
structure Cip (w : World) (c : Nat) (ks : List ByteArray) (n : Nat) (len : Int) : Prop where
  tb : TB w c
  ln : w.cell? ⟨c, 1792, none⟩ = some (.int .i64 len)
  rd : w.cell? ⟨c, 1793, none⟩ = some (.int .i64 (n : Int))
  ky : ∀ j, j ≤ n → ∀ i, i < 16 → w.cell? ⟨c, 1794 + 16 * j + i, none⟩ = some (blV (rk ks j) i)
theorem Cip.since {w w' : World} {c : Nat} {ks : List ByteArray} {n : Nat} {len : Int} (h : Cip w c ks n len) (hs : Since w w') : Cip w' c ks n len :=
  ⟨h.tb.since hs, (hs.below.cell (p := ⟨c, 1792, none⟩) h.tb.1).trans h.ln, (hs.below.cell (p := ⟨c, 1793, none⟩) h.tb.1).trans h.rd, fun j hj i hi => (hs.below.cell (p := ⟨c, _, none⟩) h.tb.1).trans (h.ky j hj i hi)⟩
theorem Cip.below {w w' : World} {c : Nat} {ks : List ByteArray} {n : Nat} {len : Int} (h : Cip w c ks n len) (hs : Below w.heap.size w w') : Cip w' c ks n len := h.since hs

def zkey : Array Value := Array.replicate 1792 (.int .u8 0) ++ #[.int .i64 0, .int .i64 0] ++ Array.replicate 240 (.int .u8 0)
theorem zkey_size : zkey.size = 2034 := by simp [zkey]
set_option maxRecDepth 100000 in
theorem infoC : (Tryz.prog.info? 130).bind (·.zero) = some (.agg zkey) := by kernel_rfl
set_option maxRecDepth 100000 in
theorem placesC : ∃ fs, Tryz.prog.underlying 130 = some (.struct fs) ∧ fs.toList.mapM (fun f => (Tryz.prog.info? f.type).map fun i => (f.offset, i.size)) = some [(0, 1792), (1792, 1), (1793, 1), (1794, 240)] := ⟨_, Tryz.underlying130, by kernel_rfl⟩
theorem zkey_at (i : Nat) (h : 1794 ≤ i) (h2 : i < 2034) : zkey[i]? = some (.int .u8 0) := by
  unfold zkey
  rw [Array.getElem?_append_right (by simp; omega), Array.getElem?_replicate, if_pos (by simp; omega)]
set_option maxRecDepth 100000 in
theorem builtC (C : Array Value) (hC : C.size = 1792) (len r : Int) : ∃ X, Tryz.prog.built 130 [(0, .agg C), (1, .int .i64 len), (2, .int .i64 r)] = some X ∧ X.size = 2034 ∧
    (∀ i, i < 1792 → X[i]? = C[i]?) ∧ X[1792]? = some (.int .i64 len) ∧ X[1793]? = some (.int .i64 r) ∧ ∀ i, 1794 ≤ i → i < 2034 → X[i]? = some (.int .u8 0) := by
  obtain ⟨fs, hu, hp⟩ := placesC
  have hi := infoC
  cases hq : Tryz.prog.info? 130 with
  | none => rw [hq] at hi; cases hi
  | some it =>
    rw [hq] at hi
    have hz : it.zero = some (.agg zkey) := hi
    have hzs := zkey_size
    have hza := zkey_at
    unfold Program.built
    simp only [hq, hu, hz, hp]
    generalize zkey = Z at hzs hza
    obtain ⟨s1, a1⟩ := fold_put C.toList Z 0 0 (fun n hn => by simp at hn; omega)
    have e1 : C.zipIdx.foldl (fun cs (c, j) => cs.setIfInBounds (0 + j) c) Z = (C.toList.zipIdx 0).foldl (fun cs (c, j) => cs.setIfInBounds (0 + j) c) Z := by
      rw [← Array.foldl_toList, Array.toList_zipIdx]
    obtain ⟨Y, hY⟩ : ∃ Y, Y = C.zipIdx.foldl (fun cs (c, j) => cs.setIfInBounds (0 + j) c) Z := ⟨_, rfl⟩
    rw [← e1, ← hY] at s1 a1
    refine ⟨(Y.setIfInBounds 1792 (.int .i64 len)).setIfInBounds 1793 (.int .i64 r), ?_, ?_, ?_, ?_, ?_, ?_⟩
    · simp [Instr.fill, Value.cells, hC, hzs]
      have hY' : Y = Array.foldl (fun cs x => cs.setIfInBounds x.2 x.1) Z C.zipIdx 0 1792 := by rw [hY]; simp [hC]
      rw [← hY', s1, hzs]
      simp
    · simp [s1, hzs]
    · intro i hi
      rw [Array.getElem?_setIfInBounds_ne (by omega), Array.getElem?_setIfInBounds_ne (by omega), a1 i, if_pos (by simp; omega)]
      simp
    · rw [Array.getElem?_setIfInBounds_ne (by omega), Array.getElem?_setIfInBounds_self_of_lt (by omega)]
    · rw [Array.getElem?_setIfInBounds_self_of_lt (by simp; omega)]
    · intro i h1 h2
      rw [Array.getElem?_setIfInBounds_ne (by omega), Array.getElem?_setIfInBounds_ne (by omega), a1 i, if_neg (by simp; omega)]
      exact hza i h1 h2

theorem results_row_tmp {P : Program} {fn : Func} {p u : Tmp} {ty : TypeId} (h : fn.results = #[.cell p ty, .tmp u]) (tmps : Array Value) (w : World) (g : Nat) (t : TypeId) (cs : Array Value) (fr : Nat × Nat) (d : TypeDesc) (v : Value)
    (hp : tmps.getD p undef = .pointer (some ⟨g, 0, none⟩)) (hv : tmps.getD u undef = v) (hg : w.heap[g]? = some (.cells cs t fr))
    (hu : P.underlying ty = some d) (hd : (match d with | .struct _ | .array _ _ => true | _ => false) = true) (hi : (P.info? ty).map (·.size) = some cs.size) :
    (results fn tmps).run P w = .ok (.tuple #[.agg cs, v]) w := by
  rw [results_cell_tmp h, hp, hv]
  simp [asAddr, run_loadVar_row w g t ty cs fr d hg hu hd hi, Result.andThen]
theorem z16_one : Z16.all (·.oneCell') = true := by
  rw [Array.all_eq_true]
  intro i hi
  have h1 : i < 16 := hi
  have h := z16 i h1
  have h2 : Z16[i]? = some (.int .u8 0) := h
  rw [Array.getElem?_eq_getElem hi] at h2
  rw [Option.some.inj h2]; rfl
set_option maxRecDepth 100000 in
theorem size_ret (c : Nat) (len : Int) (w : World) (h : w.cell? ⟨c, 1792, none⟩ = some (.int .i64 len)) : Calls Tryz.prog 120 #[.pointer (some ⟨c, 0, none⟩)] w fun e w' => e = .returned (.int .i64 len) ∧ w = w' := by
  go_enter Tryz.func120, Tryz.ntmps120
  go_wp2_with fail
  go_ret
  exact ⟨rfl, rfl⟩
set_option maxRecDepth 100000 in
set_option maxHeartbeats 2000000 in
theorem read_no (c : Nat) (ks : List ByteArray) (n : Nat) (len : Int) (hn : (len == 0) = false) (s : ByteArray) (hs : s.size ≠ 16) (_hm : s.size ≤ 140737488355328) (w : World) (hC : Cip w c ks n len) :
    Calls Tryz.prog 90 #[.pointer (some ⟨c, 0, none⟩), .string s] w fun e w' => e = .returned (.tuple #[.agg Z16, .int .i64 4]) ∧ Since w w' := by
  obtain ⟨Z, hZ⟩ : ∃ Z, Z = Z16 := ⟨_, rfl⟩
  have hns : ((s.size : Int) == 16) = false := by rw [beq_eq_false_iff_ne]; omega
  have hns2 : ((s.size : Int) != 16) = true := by rw [bne_iff_ne]; omega
  have c1 := fun w' (h : Since w w') => size_ret c len w' (hC.since h).ln
  have hs0 : Since w ((w.alloc (.cells Z16 127)).alloc (.cells Z16 127)) := ((Since.refl w).alloc _).alloc _
  have hb0 : ((w.alloc (.cells Z16 127)).alloc (.cells Z16 127)).heap[w.heap.size]? = some (.cells Z16 127 (0, 0)) := (Go.heap_alloc_old _ _ (by simp)).trans (Go.heap_alloc_new _ _)
  have hb1 : ((w.alloc (.cells Z16 127)).alloc (.cells Z16 127)).heap[w.heap.size + 1]? = some (.cells Z16 127 (0, 0)) := Go.heap_alloc2_new _ _ _
  have hE1 : Z16.all (·.oneCell') = true := z16_one
  have Hs0 := Lib.hid hs0
  clear hs0
  have Hb0 := Lib.hid hb0
  clear hb0
  have Hb1 := Lib.hid hb1
  clear hb1
  have HE1 := Lib.hid hE1
  clear hE1
  clear hC hs
  go_enter Tryz.func90, Tryz.ntmps90
  go_wp2_with fail
  refine (c1 _ Hs0.out).mono ?_
  rintro e w2 ⟨rfl, rfl⟩
  go_wp2_with (first | (refine wpList_load_row rfl 127 _ rfl (w.heap.size + 1) (by rfl) _ _ _ _ Hb1.out Tryz.underlying127 rfl i16 ?_) | (refine wpList_store_row rfl 127 _ _ rfl w.heap.size Z16 (by rfl) (by rfl) _ _ Hb0.out i16 rfl HE1.out ?_))
  exact bodyPost_ret (v := .tuple #[.agg Z16, .int .i64 4]) (results_row_tmp Tryz.results90 _ _ w.heap.size _ _ _ _ _ rfl rfl (setRow_heap _ _ _ _ _ _ Hb0.out) Tryz.underlying127 rfl i16) rfl ⟨rfl, below_setRow Hs0.out (Nat.le_refl _) _⟩
end Aes
end Go.Proofs.YtgfdomdbjiflmaaGreatDoor

/- The reference of aes: forward, backward. -/
namespace Go.Proofs.YtgfdomdbjiflmaaGreatDoor
open Go.RowKit
namespace RefAes
open Rnd Aes

theorem strs_below {w w' : World} {v : Value} {ss : List ByteArray} (h : StrsR w v ss) (hb : Since w w') : StrsR w' v ss := h.below hb
theorem rk_at (ks : List ByteArray) (i : Nat) (K : ByteArray) (hK : K = ks.getD i ⟨#[]⟩) : rk ks i = K.data.toList := by rw [hK]; rfl
theorem getD_size {ks : List ByteArray} (h : ∀ x ∈ ks, x.size = 16) (i : Nat) (hi : i < ks.length) : (ks.getD i ⟨#[]⟩).size = 16 := by
  rw [List.getD, List.getElem?_eq_getElem hi]; exact h _ (List.getElem_mem _)
set_option maxRecDepth 100000 in
set_option maxHeartbeats 2000000 in
theorem forward_calls (ks : List ByteArray) (n : Nat) (hl : ks.length = n + 1) (hs : ∀ x ∈ ks, x.size = 16) (s : ByteArray) (hs16 : s.size = 16) (hn : n ≤ 14) (X : ByteArray) (hX : X = bs (encL ks n s.data.toList)) (w : World) (v : Value) (hv : StrsR w v ks) :
    Calls Tryz.prog 73 #[v, .string s] w fun e w' => e = .returned (.string X) ∧ Since w w' := by
  obtain ⟨b, o, cap, rfl, hb, hc⟩ := Sched.StrsR.form hv (by omega)
  have H0 := Lib.hid (Since.refl w)
  have hc0 := hc 0 (by omega)
  have hz0 := getD_size hs 0 (by omega)
  rw [Nat.add_zero] at hc0
  obtain ⟨K0, hK0⟩ : ∃ K, K = ks.getD 0 ⟨#[]⟩ := ⟨_, rfl⟩
  rw [← hK0] at hc0 hz0
  obtain ⟨S0, hS0⟩ : ∃ S, S = bs (fwdL ks n s.data.toList 0) := ⟨_, rfl⟩
  have c0 := RefRnd.key_mak s K0 hs16 hz0 S0 (by rw [hS0, fwdL, rk_at ks 0 K0 hK0])
  have HC : Hid (∀ i, i < ks.length → w.cell? ⟨b, o + i, none⟩ = some (.string (ks.getD i ⟨#[]⟩))) := Lib.hid hc
  have HZ := Lib.hid hs
  have HX := Lib.hid hX
  have HL := Lib.hid hl
  rw [hl]
  have i0 : (0 : Int) < (n : Int) + 1 := by omega
  clear hc hs hX hl hK0
  have HS0 := Lib.hid hS0
  clear hS0
  have Hs16 := Lib.hid hs16
  clear hs16
  have Hz0 := Lib.hid hz0
  clear hz0
  go_enter Tryz.func73, Tryz.ntmps73
  go_wp2_with fail
  refine (c0).calls H0.out ?_
  intro w1 h1
  have H1 := Lib.hid h1
  clear h1
  go_wp2_with fail
  go_loopw [1, 5] (fun t i wr => ∃ j : Nat, 1 ≤ j ∧ j ≤ n + 1 ∧ i = .int .i64 (j : Int) ∧ (∃ S, t = .string S ∧ Hid (S = bs (fwdL ks n s.data.toList (j - 1)))) ∧ Hid (Since w wr)) (fun _ i _ => n + 1 - (intOf i).toNat)
  case atStart => exact ⟨1, by omega, by omega, rfl, ⟨S0, rfl, HS0⟩, H1⟩
  case round =>
    obtain ⟨j, hj1, hj2, rfl, ⟨S, rfl, HS⟩, HW⟩ := hrel
    by_cases hlt : j < n + 1
    · have hd : decide ((j : Int) < (n : Int) + 1) = true := decide_eq_true (by omega)
      have hcj := (HW.out.below.cell (p := ⟨b, o + j, none⟩) hb).trans (HC.out j (by rw [HL.out]; omega))
      have hzj := getD_size HZ.out j (by rw [HL.out]; omega)
      obtain ⟨K, hK⟩ : ∃ K, K = ks.getD j ⟨#[]⟩ := ⟨_, rfl⟩
      rw [← hK] at hcj hzj
      obtain ⟨q, hq⟩ : ∃ q, q = decide (j = n) := ⟨_, rfl⟩
      have hqe : ((j : Int) == (n : Int)) = q := by
        rw [hq]
        by_cases h : j = n
        · rw [decide_eq_true h, beq_iff_eq, h]
        · rw [decide_eq_false h, beq_eq_false_iff_ne]; omega
      obtain ⟨X1, hX1⟩ : ∃ X, X = bs (fwdL ks n s.data.toList j) := ⟨_, rfl⟩
      have c1 := RefRnd.do_mak S K (by rw [HS.out, size_bs, fwdL_len]) hzj q X1 (by
        obtain ⟨m, rfl⟩ : ∃ m, j = m + 1 := ⟨j - 1, by omega⟩
        rw [hX1, fwdL, rk_at ks _ K hK, HS.out, list_bs, hq]; rfl)
      have i1 : (0 : Int) ≤ (j : Int) := by omega
      have i2 : (j : Int) < (n : Int) + 1 := by omega
      clear hK hq hzj
      have HX1 := Lib.hid hX1
      clear hX1
      go_wp2_with fail
      refine (c1).calls HW.out ?_
      intro w2 h2
      have H2 := Lib.hid h2
      clear h2
      go_wp2_with fail
      go_roundw
      case rel => exact ⟨j + 1, by omega, by omega, by go_num, ⟨X1, rfl, HX1⟩, H2⟩
      case measure => simp [intOf]; omega
    · have hd : decide ((j : Int) < (n : Int) + 1) = false := decide_eq_false (by omega)
      have e : S = X := by rw [HS.out, HX.out, encL, show j - 1 = n from by omega]
      subst e
      go_wp2_with fail
      go_ret
      exact ⟨rfl, HW.out⟩
end RefAes
end Go.Proofs.YtgfdomdbjiflmaaGreatDoor

/- The reference of aes: blocks encrypted, decrypted; many. -/
namespace Go.Proofs.YtgfdomdbjiflmaaGreatDoor
open Go.RowKit
namespace RefAes
open Rnd Aes

theorem keysL_16 (key : ByteArray) (hk : keyOk key) : ∀ x ∈ Sched.keysL key.data.toList (key.size / 4), x.size = 16 := by
  unfold keyOk at hk
  have hl : key.data.toList.length = 4 * (key.size / 4) := by show key.size = _; omega
  have hcl := Sched.catw_len key.data.toList (key.size / 4) (by omega) hl
  intro x hx
  unfold Sched.keysL Oct.pcs at hx
  obtain ⟨i, hi, rfl⟩ := List.mem_map.1 hx
  rw [List.mem_range] at hi
  unfold Oct.pc
  rw [size_bs, List.length_take, List.length_drop, hcl]
  omega
theorem keys_key (key : ByteArray) (hk : keyOk key) : Sched.MakE 72 #[.string key] (Sched.keysL key.data.toList (key.size / 4)) 0 := by
  unfold keyOk at hk
  exact RefSched.keys_yes key _ (by omega) (by omega)
set_option maxRecDepth 100000 in
theorem fwd_key (key b : ByteArray) (hk : keyOk key) (hb : b.size = 16) (X : ByteArray) (hX : X = encK key b) (w : World) (v : Value) (hv : StrsR w v (Sched.keysL key.data.toList (key.size / 4))) :
    Calls Tryz.prog 73 #[v, .string b] w fun e w' => e = .returned (.string X) ∧ Since w w' :=
  forward_calls _ (key.size / 4 + 6) (by rw [Sched.keysL_len]) (keysL_16 key hk) b hb (by unfold keyOk at hk; omega) X (by rw [hX]; rfl) w v hv
set_option maxRecDepth 100000 in
theorem enc_nokey (key b : ByteArray) (hm : key.size ≤ 1000000) (h : ¬ keyOk key) : Ret 44 #[.string key, .string b] (.tuple #[.string ⟨#[]⟩, .int .i64 2]) := by
  intro w
  unfold keyOk at h
  have c1 := RefSched.keys_no key hm (by omega)
  clear h
  go_enter Tryz.func44, Tryz.ntmps44
  go_wp2_with fail
  refine (c1).calls ?_
  go_wp2_with fail
  go_ret2
  exact ⟨rfl, rfl⟩
set_option maxRecDepth 100000 in
theorem enc_nosize (key b : ByteArray) (hk : keyOk key) (hb : b.size ≠ 16) (_hm : b.size ≤ 140737488355328) : Mak 44 #[.string key, .string b] (.tuple #[.string ⟨#[]⟩, .int .i64 4]) := by
  intro w
  have c1 := keys_key key hk
  have H0 := Lib.hid (Since.refl w)
  have hn : ((b.size : Int) == 16) = false := by rw [beq_eq_false_iff_ne]; omega
  have hn2 : ((b.size : Int) != 16) = true := by rw [bne_iff_ne]; omega
  clear hk hb
  go_enter Tryz.func44, Tryz.ntmps44
  go_wp2_with fail
  refine c1.calls H0.out ?_
  intro v w1 ho hb h1
  have H1 := Lib.hid h1
  clear ho hb h1
  go_wp2_with fail
  go_ret2
  exact ⟨rfl, H1.out⟩
set_option maxRecDepth 100000 in
theorem enc_yes (key b : ByteArray) (hk : keyOk key) (hb : b.size = 16) (X : ByteArray) (hX : X = encK key b) : Mak 44 #[.string key, .string b] (.tuple #[.string X, .int .i64 0]) := by
  intro w
  have c1 := keys_key key hk
  have c2 := fun w v => fwd_key key b hk hb X hX w v
  have H0 := Lib.hid (Since.refl w)
  have hn : (b.size : Int) = 16 := by omega
  have C2 := Lib.hid c2
  clear hk hX c2
  go_enter Tryz.func44, Tryz.ntmps44
  go_wp2_with fail
  refine c1.calls H0.out ?_
  intro v w1 ho hb h1
  have H1 := Lib.hid h1
  have HO := Lib.hid ho
  clear ho hb h1
  go_wp2_with fail
  refine (C2.out _ _ HO.out).mono ?_
  rintro e w2 ⟨rfl, h2⟩
  have H2 := Lib.hid (Since.step H1.out h2)
  clear h2
  go_wp2_with fail
  go_ret2
  exact ⟨rfl, H2.out⟩
/-- blocks, one by one -/
def manyL (f : ByteArray → ByteArray) (l : List UInt8) (k : Nat) : List UInt8 := Oct.cat ((Oct.pcs l 16 k).map f)
theorem manyL_succ (f : ByteArray → ByteArray) (l : List UInt8) (k : Nat) : manyL f l (k + 1) = manyL f l k ++ (f (Oct.pc l 16 k)).data.toList := by
  unfold manyL
  rw [Oct.pcs_succ, List.map_append, List.map_singleton, Oct.cat_snoc]
theorem manyL_len (f : ByteArray → ByteArray) (hf : ∀ b, (f b).size = 16) (l : List UInt8) (k : Nat) : (manyL f l k).length = 16 * k := by
  induction k with
  | zero => rfl
  | succ k ih =>
    rw [manyL_succ, List.length_append, ih]
    have : (f (Oct.pc l 16 k)).data.toList.length = 16 := hf _
    omega
def manyK (back : Bool) (key s : ByteArray) : ByteArray := bs (manyL (if back then decK key else encK key) s.data.toList (s.size / 16))
theorem both_16 (back : Bool) (key b : ByteArray) : ((if back then decK key else encK key) b).size = 16 := by
  cases back
  · exact encK_size key b
  · exact decK_size key b
theorem pc_ext (s : ByteArray) (a k : Nat) (ha : a = 16 * k) : s.extract a (a + 16) = Oct.pc s.data.toList 16 k := by
  apply ba_ext
  rw [ext_list, Oct.pc, list_bs, ha, show 16 * k + 16 - 16 * k = 16 from by omega]
theorem pc_16 (s : ByteArray) (k : Nat) (h : 16 * k + 16 ≤ s.size) : (Oct.pc s.data.toList 16 k).size = 16 := by
  unfold Oct.pc
  rw [size_bs, List.length_take, List.length_drop]
  have : s.data.toList.length = s.size := rfl
  omega
end RefAes
end Go.Proofs.YtgfdomdbjiflmaaGreatDoor
