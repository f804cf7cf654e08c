/- The reference of package sched: all words, and the keys of rounds. -/
import Derived.Test.YtoblmddnefmpoaaRefSched
import Derived.Deep.RegionHeld3
import Derived.IntWalk
namespace Go.Proofs.Ytoblmddnefmpoaa
open Go.RowKit
namespace RefSched
open Rnd Sched

theorem pkclosed (w0 : World) : PK w0 (.slice none 0 0) [] w0 := ⟨Since.refl w0, World.ownsRow_nil _ _ _ _⟩
theorem subs_4 (s : ByteArray) (hs : s.size = 4) (X : ByteArray) (hX : X = bs (subL s.data.toList)) : Mak 65 #[.string s] (.string X) := RefRnd.subs_m s (by omega) X hX
set_option maxRecDepth 100000 in
set_option maxHeartbeats 8000000 in
theorem words_mak (key : ByteArray) (n : Nat) (hn : n = 4 ∨ n = 6 ∨ n = 8) (hk : key.size = 4 * n) : MakS 50 #[.string key] (wordsL key.data.toList n) := by
  intro w
  obtain ⟨l, hl0⟩ : ∃ l, l = key.data.toList := ⟨_, rfl⟩
  have hl : l.length = 4 * n := by rw [hl0]; exact hk
  have c1 : Ret 45 #[.int .i64 (key.size : Int)] (.int .i64 ((n : Int) + 6)) := by
    rw [hk]; exact rounds_yes (4 * n) (by omega) _ (by omega)
  have hd4 : (key.size : Int) / 4 = (n : Int) := by omega
  have hki : (key.size : Int) = 4 * (n : Int) := by omega
  have hwl : wordsL key.data.toList n = upw l n (4 * n + 28) := by rw [← hl0, show 4 * n + 28 = n + (3 * n + 28) from by omega, upw_n]; rfl
  rw [hwl]
  have hn1 : 4 ≤ n ∧ n ≤ 8 := by omega
  obtain ⟨hn4, hn8⟩ := hn1
  have hb0 : (((n : Int) + 6) == 0) = false := by rw [beq_eq_false_iff_ne]; omega
  have HN := Lib.hid hn
  have HL0 := Lib.hid hl0
  have HL := Lib.hid hl
  have HK := Lib.hid hk
  have HKI := Lib.hid hki
  clear hwl hl hk hn hl0 hki
  go_enter Try.func50, Try.ntmps50
  go_wp2_with fail
  refine (c1).calls ?_
  go_wp2_with fail
  go_loopw [3, 5] (fun v i wr => ∃ j : Nat, j ≤ 4 * n + 28 ∧ j ≤ 60 ∧ i = .int .i64 (j : Int) ∧ Hid (PK w v (upw l n j) wr)) (fun _ i _ => 60 - (intOf i).toNat)
  case atStart => exact ⟨0, by omega, by omega, rfl, Lib.hid (pkclosed w)⟩
  case round =>
    obtain ⟨j, hj, hj60, rfl, HP⟩ := hrel
    by_cases hlt : j < 4 * n + 28
    · have i5 : (j : Int) < 4 * ((n : Int) + 6) + 4 := by omega
      have hj9 : j ≤ 1099511627776 := by omega
      by_cases hjn : j < n
      · obtain ⟨Pc, hPc⟩ : ∃ Pc, key.extract (4 * j) (4 * j + 4) = Pc := ⟨_, rfl⟩
        have hup := upw_lo l n j hjn
        have hpc : Oct.pc l 4 j = Pc := by
          rw [← hPc]
          apply ba_ext
          unfold Oct.pc
          rw [ext_list, list_bs, HL0.out]
          congr 1
          omega
        rw [hpc] at hup
        have hb1 : 4 * (j : Int) + 4 ≤ (key.size : Int) := by rw [HKI.out]; omega
        have hji : (j : Int) < (n : Int) := by omega
        obtain ⟨ss, hss⟩ : ∃ ss, ss = upw l n j := ⟨_, rfl⟩
        have hsl : ss.length = j := by rw [hss, upw_len]
        rw [← hss] at HP hup
        have Hup := Lib.hid hup
        clear hup
        have Hsl := Lib.hid hsl
        clear hsl
        clear hss hpc
        go_wp2_with fail
        refine (c1).calls ?_
        go_wp2_with (at_builtin; refine app_one elemS rfl _ _ (by rfl) w wr _ j _ (by rfl) (pkown HP Hsl.out) HP.out.since _ (by rfl) rfl hj9 (by decide) ?_)
        intro v8 w8 ho8 hS8
        have hp8 : Hid (PK w v8 (upw l n (j + 1)) w8) := Lib.hid ⟨hS8, by rw [Hup.out]; unfold Strs; rw [List.length_append, List.map_append, Hsl.out]; exact ho8⟩
        clear ho8 hS8
        go_wp2_with fail
        go_roundw
        case rel => exact ⟨j + 1, by omega, by omega, by go_num, hp8⟩
        case measure => simp [intOf]; omega
      · have hji : ¬ (j : Int) < (n : Int) := by omega
        have hup := upw_hi l n j (by omega)
        have hs4 := upw_size l n j (by omega) HL.out
        obtain ⟨ss, hss⟩ : ∃ ss, ss = upw l n j := ⟨_, rfl⟩
        have hsl : ss.length = j := by rw [hss, upw_len]
        rw [← hss] at HP hup hs4
        obtain ⟨g2, cap2, hv⟩ := Strs.form HP.out.own (by omega)
        rw [hsl] at hv
        subst hv
        obtain ⟨m, hm⟩ : ∃ m, m = j - 1 := ⟨_, rfl⟩
        obtain ⟨k, hkk⟩ : ∃ k, k = j - n := ⟨_, rfl⟩
        obtain ⟨A, hA⟩ : ∃ A, A = ss.getD k ⟨#[]⟩ := ⟨_, rfl⟩
        obtain ⟨B, hB⟩ : ∃ B, B = ss.getD m ⟨#[]⟩ := ⟨_, rfl⟩
        have hA4 : A.size = 4 := hs4 A (by rw [hA, List.getD, List.getElem?_eq_getElem (show k < ss.length by omega)]; exact List.getElem_mem _)
        have hB4 : B.size = 4 := hs4 B (by rw [hB, List.getD, List.getElem?_eq_getElem (show m < ss.length by omega)]; exact List.getElem_mem _)
        have a1 : ∀ W, Hid (PK w (.slice (some ⟨g2, 0, none⟩) j cap2) ss W) → W.cell? ⟨g2, k, none⟩ = some (.string A) := fun W h => by rw [hA]; exact pkcell h k (by omega)
        have m0 : wr.cell? ⟨g2, m, none⟩ = some (.string B) := by rw [hB]; exact pkcell HP m (by omega)
        obtain ⟨T, hT⟩ : ∃ T, T = trans B j n := ⟨_, rfl⟩
        have hT4 : T.size = 4 := by rw [hT]; exact trans_size _ _ _ hB4
        obtain ⟨Y, hY⟩ : ∃ Y, Y = xorS A T := ⟨_, rfl⟩
        have c4 := xor_m A T (by omega) (by omega) Y hY
        have hup2 : upw l n (j + 1) = ss ++ [Y] := by
          rw [hup, hY, hT, hA, hB]
          unfold word
          rw [← hm, ← hkk]
        have A1 := Lib.hid a1
        have e1 : (j : Int) - (n : Int) = (k : Int) := by omega
        have e2 : (j : Int) - 1 = (m : Int) := by omega
        have i1 : (k : Int) < (j : Int) := by omega
        have i2 : (m : Int) < (j : Int) := by omega
        have hup := hup2
        have em : (j : Int) % (n : Int) = ((j % n : Nat) : Int) := by simp
        have hBl : B.data.toList.length = 4 := hB4
        have hBi : (B.size : Int) = 4 := by omega
        have HB4 := Lib.hid hB4
        clear a1 hY hA hB hss hs4 hm hkk hup2 hA4 hT4
        have Hup := Lib.hid hup
        clear hup
        have Hsl := Lib.hid hsl
        clear hsl
        by_cases h0 : j % n = 0
        · have f1 : (j : Int) % (n : Int) = 0 := by omega
          obtain ⟨q, hq⟩ : ∃ q, q = j / n := ⟨_, rfl⟩
          have f2 : (j : Int) / (n : Int) = (q : Int) := by rw [hq]; simp
          have hq60 : q ≤ 60 := by rw [hq]; exact Nat.le_trans (Nat.div_le_self _ _) hj60
          obtain ⟨P1, hP1⟩ : ∃ P1, B.extract 1 4 = P1 := ⟨_, rfl⟩
          obtain ⟨P2, hP2⟩ : ∃ P2, B.extract 0 1 = P2 := ⟨_, rfl⟩
          obtain ⟨J, hJ⟩ : ∃ J, P1 ++ P2 = J := ⟨_, rfl⟩
          have hJl : J.data.toList = rot B.data.toList := by
            rw [← hJ, app_list, ← hP1, ← hP2, ext_list, ext_list]; rfl
          have hJs : J.size = 4 := by
            show J.data.toList.length = 4
            rw [hJl, rot]; simp [hBl]
          have hz1 : P1.size = 3 := by rw [← hP1]; simp; omega
          have hz2 : P2.size = 1 := by rw [← hP2]; simp; omega
          have hsz : ¬ 9223372036854775807 < P1.size + P2.size := by omega
          obtain ⟨S, hS⟩ : ∃ S, S = bs (subL J.data.toList) := ⟨_, rfl⟩
          have c5 := subs_4 J hJs S hS
          have hSs : S.size = 4 := by rw [hS, size_bs, subL_len]; exact hJs
          obtain ⟨c, hc⟩ : ∃ c, c = conN ((q : Nat) : Int) := ⟨_, rfl⟩
          have hc256 : c < 256 := by rw [hc]; exact conN_lt _
          have c6 := const_any (q : Int) c hc
          obtain ⟨R, hR⟩ : ∃ R, R = bs [UInt8.ofNat c, 0, 0, 0] := ⟨_, rfl⟩
          have K1 := conv4 (c : Int) R (by rw [hR]; rfl)
          have hRs : R.size = 4 := by rw [hR]; rfl
          have c7 := xor_m S R (by omega) (by omega) T (by
            rw [hT]; unfold Sched.trans; rw [if_pos h0, hS, hR, hJl, hc, hq])
          clear hT hS hR hc hq hJl hz1 hz2 hJs hSs hRs em h0 hBl
          go_wp2_with fail
          refine (c1).calls ?_
          go_wp2_with fail
          go_region_with (first | (go_at_call 65; refine (c5 _).mono ?_; rintro e w5 ⟨rfl, h5⟩; have hp5 := pkstep h5 (by first | assumption | exact pkdrew (by assumption)); clear h5))
          all_goals
            go_wp2_with fail
            refine (c6).calls ?_
            go_wp2_with fail
            refine (c7 _).mono ?_
            rintro e w6 ⟨rfl, h6⟩
            have hp6 := pkstep h6 (by first | exact pkalloc _ hp5 | exact pkalloc _ (pkdrew hp5) | exact pkdrew (pkalloc _ hp5))
            clear h6
            have kA := A1.out _ hp6
            go_wp2_with fail
            refine (c4 _).mono ?_
            rintro e w7 ⟨rfl, h7⟩
            have hp7 := pkstep h7 (hp6)
            clear h7 kA
            go_wp2_with (at_builtin; refine app_one elemS rfl _ _ (by rfl) w w7 _ j _ (by rfl) (pkown hp7 Hsl.out) hp7.out.since _ (by rfl) rfl hj9 (by decide) ?_)
            intro v8 w8 ho8 hS8
            have hp8 : Hid (PK w v8 (upw l n (j + 1)) w8) := Lib.hid ⟨hS8, by rw [Hup.out]; unfold Strs; rw [List.length_append, List.map_append, Hsl.out]; exact ho8⟩
            clear ho8 hS8
            go_wp2_with fail
            go_roundw
            case rel => exact ⟨j + 1, by omega, by omega, by go_num, hp8⟩
            case measure => simp [intOf]; omega
        · have f1 : ((j : Int) % (n : Int) == 0) = false := by rw [em, beq_eq_false_iff_ne]; omega
          by_cases h8 : n = 8 ∧ j % 8 = 4
          · obtain ⟨h88, h4⟩ := h8
            have f2 : (j : Int) % 8 = 4 := by omega
            have f3 : ((n : Int) == 8) = true := by rw [h88]; rfl
            have c5 := subs_4 B HB4.out T (by rw [hT]; unfold Sched.trans; rw [if_neg h0, if_pos ⟨h88, h4⟩])
            clear h88
            clear hT em h0 h4 hBl
            go_wp2_with fail
            refine (c1).calls ?_
            go_wp2_with fail
            refine (c5 _).mono ?_
            rintro e w5 ⟨rfl, h5⟩
            have hp5 := pkstep h5 HP
            clear h5
            have kA := A1.out _ hp5
            go_wp2_with fail
            refine (c4 _).mono ?_
            rintro e w7 ⟨rfl, h7⟩
            have hp7 := pkstep h7 (hp5)
            clear h7 kA
            go_wp2_with (at_builtin; refine app_one elemS rfl _ _ (by rfl) w w7 _ j _ (by rfl) (pkown hp7 Hsl.out) hp7.out.since _ (by rfl) rfl hj9 (by decide) ?_)
            intro v8 w8 ho8 hS8
            have hp8 : Hid (PK w v8 (upw l n (j + 1)) w8) := Lib.hid ⟨hS8, by rw [Hup.out]; unfold Strs; rw [List.length_append, List.map_append, Hsl.out]; exact ho8⟩
            clear ho8 hS8
            go_wp2_with fail
            go_roundw
            case rel => exact ⟨j + 1, by omega, by omega, by go_num, hp8⟩
            case measure => simp [intOf]; omega
          · have hXt : T = B := by rw [hT]; unfold Sched.trans; rw [if_neg h0, if_neg h8]
            subst hXt
            by_cases hn9 : n = 8
            · have f3 : ((n : Int) == 8) = true := by rw [hn9]; rfl
              have f2 : ((j : Int) % 8 == 4) = false := by rw [beq_eq_false_iff_ne]; omega
              clear hT em h0 h8 hBl hn9
              have kA := A1.out _ HP
              go_wp2_with fail
              refine (c1).calls ?_
              go_wp2_with fail
              refine (c4 _).mono ?_
              rintro e w7 ⟨rfl, h7⟩
              have hp7 := pkstep h7 (HP)
              clear h7 kA
              go_wp2_with (at_builtin; refine app_one elemS rfl _ _ (by rfl) w w7 _ j _ (by rfl) (pkown hp7 Hsl.out) hp7.out.since _ (by rfl) rfl hj9 (by decide) ?_)
              intro v8 w8 ho8 hS8
              have hp8 : Hid (PK w v8 (upw l n (j + 1)) w8) := Lib.hid ⟨hS8, by rw [Hup.out]; unfold Strs; rw [List.length_append, List.map_append, Hsl.out]; exact ho8⟩
              clear ho8 hS8
              go_wp2_with fail
              go_roundw
              case rel => exact ⟨j + 1, by omega, by omega, by go_num, hp8⟩
              case measure => simp [intOf]; omega
            · have f2 : ((n : Int) == 8) = false := by rw [beq_eq_false_iff_ne]; omega
              clear hT em h0 h8 hBl hn9
              have kA := A1.out _ HP
              go_wp2_with fail
              refine (c1).calls ?_
              go_wp2_with fail
              refine (c4 _).mono ?_
              rintro e w7 ⟨rfl, h7⟩
              have hp7 := pkstep h7 (HP)
              clear h7 kA
              go_wp2_with (at_builtin; refine app_one elemS rfl _ _ (by rfl) w w7 _ j _ (by rfl) (pkown hp7 Hsl.out) hp7.out.since _ (by rfl) rfl hj9 (by decide) ?_)
              intro v8 w8 ho8 hS8
              have hp8 : Hid (PK w v8 (upw l n (j + 1)) w8) := Lib.hid ⟨hS8, by rw [Hup.out]; unfold Strs; rw [List.length_append, List.map_append, Hsl.out]; exact ho8⟩
              clear ho8 hS8
              go_wp2_with fail
              go_roundw
              case rel => exact ⟨j + 1, by omega, by omega, by go_num, hp8⟩
              case measure => simp [intOf]; omega
    · obtain rfl : j = 4 * n + 28 := by omega
      have i5 : ¬ ((4 * n + 28 : Nat) : Int) < 4 * ((n : Int) + 6) + 4 := by omega
      go_wp2_with fail
      refine (c1).calls ?_
      go_wp2_with fail
      go_ret
      exact ⟨_, rfl, HP.out.own, HP.out.since⟩

theorem words_no (key : ByteArray) (hm : key.size ≤ 1000000) (h : key.size ≠ 16 ∧ key.size ≠ 24 ∧ key.size ≠ 32) : Ret 50 #[.string key] (.slice none 0 0) := by
  intro w
  have c1 := rounds_no (key.size : Int) (by omega)
  clear h
  go_enter Try.func50, Try.ntmps50
  go_wp2_with fail
  refine (c1).calls ?_
  go_wp2_with fail
  go_ret
  exact ⟨rfl, rfl⟩
theorem keys_no (key : ByteArray) (hm : key.size ≤ 1000000) (h : key.size ≠ 16 ∧ key.size ≠ 24 ∧ key.size ≠ 32) : Ret 43 #[.string key] (.tuple #[.slice none 0 0, .int .i64 2]) := by
  intro w
  have c1 := rounds_no (key.size : Int) (by omega)
  clear h
  go_enter Try.func43, Try.ntmps43
  go_wp2_with fail
  refine (c1).calls ?_
  go_wp2_with fail
  go_ret2
  exact ⟨rfl, rfl⟩
theorem quad (ws : List ByteArray) (h : ∀ x ∈ ws, x.size = 4) (k : Nat) (hk : 4 * k + 4 ≤ ws.length) (A B C D : ByteArray) (hA : A = ws.getD (4 * k) ⟨#[]⟩) (hB : B = ws.getD (4 * k + 1) ⟨#[]⟩) (hC : C = ws.getD (4 * k + 2) ⟨#[]⟩) (hD : D = ws.getD (4 * k + 3) ⟨#[]⟩) :
    A ++ B ++ C ++ D = Oct.pc (Oct.cat ws) 16 k := by
  have e : ws.drop (4 * k) = A :: B :: C :: D :: ws.drop (4 * k + 4) := by
    rw [hA, hB, hC, hD]
    rw [List.drop_eq_getElem_cons (show 4 * k < ws.length by omega), List.drop_eq_getElem_cons (show 4 * k + 1 < ws.length by omega), List.drop_eq_getElem_cons (show 4 * k + 1 + 1 < ws.length by omega), List.drop_eq_getElem_cons (show 4 * k + 1 + 1 + 1 < ws.length by omega)]
    simp [List.getD, List.getElem?_eq_getElem (show 4 * k < ws.length by omega), List.getElem?_eq_getElem (show 4 * k + 1 < ws.length by omega), List.getElem?_eq_getElem (show 4 * k + 2 < ws.length by omega), List.getElem?_eq_getElem (show 4 * k + 3 < ws.length by omega)]
  have s4 : ∀ x ∈ ws.drop (4 * k), x.data.toList.length = 4 := fun x hx => h x (List.mem_of_mem_drop hx)
  rw [e] at s4
  have sA := s4 A (by simp)
  have sB := s4 B (by simp)
  have sC := s4 C (by simp)
  have sD := s4 D (by simp)
  apply ba_ext
  unfold Oct.pc
  rw [list_bs, show 16 * k = 4 * (4 * k) from by omega, cat_drop4 ws h, e, app_list, app_list, app_list]
  simp only [cat_cons]
  rw [← List.append_assoc, ← List.append_assoc, ← List.append_assoc, List.take_left' (by simp only [List.length_append]; omega)]
set_option maxRecDepth 100000 in
set_option maxHeartbeats 8000000 in
theorem keys_yes (key : ByteArray) (n : Nat) (hn : n = 4 ∨ n = 6 ∨ n = 8) (hk : key.size = 4 * n) : MakE 43 #[.string key] (keysL key.data.toList n) 0 := by
  intro w
  have hl : key.data.toList.length = 4 * n := hk
  have c1 : Ret 45 #[.int .i64 (key.size : Int)] (.int .i64 ((n : Int) + 6)) := by
    rw [hk]; exact rounds_yes (4 * n) (by omega) _ (by omega)
  have c2 := words_mak key n hn hk
  have hw4 := wordsL_size key.data.toList n (by omega) hl
  obtain ⟨ws, hws⟩ : ∃ ws, ws = wordsL key.data.toList n := ⟨_, rfl⟩
  have hwl : ws.length = 4 * n + 28 := by rw [hws, wordsL_len]
  have hkl : keysL key.data.toList n = Oct.pcs (Oct.cat ws) 16 (n + 7) := by rw [hws]; rfl
  rw [← hws] at c2 hw4
  rw [hkl]
  have hb0 : (((n : Int) + 6) == 0) = false := by rw [beq_eq_false_iff_ne]; omega
  have H0 := Lib.hid (Since.refl w)
  have hn48 : 4 ≤ n ∧ n ≤ 8 := by omega
  obtain ⟨hn4, hn8⟩ := hn48
  clear hkl hws hl hk hn
  have Hw4 := Lib.hid hw4
  clear hw4
  have Hwl := Lib.hid hwl
  clear hwl
  go_enter Try.func43, Try.ntmps43
  go_wp2_with fail
  refine (c1).calls ?_
  go_wp2_with fail
  refine (c2 w).mono ?_
  rintro e w1 ⟨v1, rfl, ho1, h1⟩
  obtain ⟨g, cap, hv⟩ := Strs.form ho1 (by rw [Hwl.out]; omega)
  obtain ⟨N, hN⟩ : ∃ N, N = 4 * n + 28 := ⟨_, rfl⟩
  rw [Hwl.out, ← hN] at hv
  subst hv
  have P1 : Hid (PK w (.slice (some ⟨g, 0, none⟩) N cap) ws w1) := Lib.hid ⟨h1, ho1⟩
  have HN := Lib.hid hN
  have hN60 : N ≤ 60 := by omega
  have H1 := Lib.hid h1
  have hg1 : g < w1.heap.size := by
    have h9 := pkcell P1 0 (by rw [Hwl.out]; omega)
    exact block_lt_of_cell h9
  clear ho1 h1 hN
  go_wp2_with fail
  go_loopw [5, 6] (fun v i wr => ∃ k q : Nat, k ≤ n + 7 ∧ q ≤ 60 ∧ Hid (q = 4 * k) ∧ i = .int .i64 (q : Int) ∧ Hid (PK w1 v (Oct.pcs (Oct.cat ws) 16 k) wr)) (fun _ i _ => 60 - (intOf i).toNat)
  case atStart => exact ⟨0, 0, by omega, by omega, Lib.hid rfl, rfl, Lib.hid (pkclosed w1)⟩
  case round =>
    obtain ⟨k, q, hk, hq60, HQ, rfl, HP⟩ := hrel
    have hq := HQ.out
    have hNN := HN.out
    by_cases hlt : k < n + 7
    · have hqN : q + 3 < N := by omega
      obtain ⟨A, hA⟩ : ∃ A, A = ws.getD q ⟨#[]⟩ := ⟨_, rfl⟩
      obtain ⟨B, hB⟩ : ∃ B, B = ws.getD (q + 1) ⟨#[]⟩ := ⟨_, rfl⟩
      obtain ⟨C, hC⟩ : ∃ C, C = ws.getD (q + 2) ⟨#[]⟩ := ⟨_, rfl⟩
      obtain ⟨D, hD⟩ : ∃ D, D = ws.getD (q + 3) ⟨#[]⟩ := ⟨_, rfl⟩
      have hcell : ∀ i, i < N → ∀ W, Since w1 W → W.cell? ⟨g, i, none⟩ = some (.string (ws.getD i ⟨#[]⟩)) := fun i hi W hW => (hW.below.cell (p := ⟨g, i, none⟩) hg1).trans (pkcell P1 i (by rw [Hwl.out]; omega))
      have hS : ∀ W, Hid (Since w1 W) → Hid (Since w1 W) ∧ W.cell? ⟨g, q, none⟩ = some (.string A) ∧ W.cell? ⟨g, q + 1, none⟩ = some (.string B) ∧ W.cell? ⟨g, q + 2, none⟩ = some (.string C) ∧ W.cell? ⟨g, q + 3, none⟩ = some (.string D) := fun W hW =>
        ⟨hW, by rw [hA]; exact hcell q (by omega) W hW.out, by rw [hB]; exact hcell (q + 1) (by omega) W hW.out, by rw [hC]; exact hcell (q + 2) (by omega) W hW.out, by rw [hD]; exact hcell (q + 3) (by omega) W hW.out⟩
      have hqd := quad ws Hw4.out k (by rw [Hwl.out]; omega) A B C D (by rw [hA, hq]) (by rw [hB, hq]) (by rw [hC, hq]) (by rw [hD, hq])
      have sz : ∀ i, i < N → (ws.getD i ⟨#[]⟩).size = 4 := fun i hi => Hw4.out _ (by rw [List.getD, List.getElem?_eq_getElem (show i < ws.length by rw [Hwl.out]; omega)]; exact List.getElem_mem _)
      have sA : A.size = 4 := by rw [hA]; exact sz q (by omega)
      have sB : B.size = 4 := by rw [hB]; exact sz (q + 1) (by omega)
      have sC : C.size = 4 := by rw [hC]; exact sz (q + 2) (by omega)
      have sD : D.size = 4 := by rw [hD]; exact sz (q + 3) (by omega)
      obtain ⟨AB, hAB⟩ : ∃ AB, A ++ B = AB := ⟨_, rfl⟩
      have sAB : AB.size = 8 := by rw [← hAB, ByteArray.size_append]; omega
      rw [hAB] at hqd
      obtain ⟨ABC, hABC⟩ : ∃ ABC, AB ++ C = ABC := ⟨_, rfl⟩
      have sABC : ABC.size = 12 := by rw [← hABC, ByteArray.size_append]; omega
      rw [hABC] at hqd
      obtain ⟨Y, hY⟩ : ∃ Y, ABC ++ D = Y := ⟨_, rfl⟩
      rw [hY] at hqd
      have z1 : ¬ 9223372036854775807 < A.size + B.size := by omega
      have z2 : ¬ 9223372036854775807 < AB.size + C.size := by omega
      have z3 : ¬ 9223372036854775807 < ABC.size + D.size := by omega
      obtain ⟨ss, hss⟩ : ∃ ss, ss = Oct.pcs (Oct.cat ws) 16 k := ⟨_, rfl⟩
      have hsl : ss.length = k := by rw [hss, Oct.pcs_len]
      have hup : Oct.pcs (Oct.cat ws) 16 (k + 1) = ss ++ [Y] := by rw [Oct.pcs_succ, hss, ← hqd]
      rw [← hss] at HP
      have HS := Lib.hid hS
      have hs0 : Hid (Since w1 wr) := Lib.hid HP.out.since
      have w1' : IntKind.i64.wrap ((q : Int) + 1) = (q : Int) + 1 := IntWalk.i64_in _ (by omega)
      have w2' : IntKind.i64.wrap ((q : Int) + 2) = (q : Int) + 2 := IntWalk.i64_in _ (by omega)
      have w3' : IntKind.i64.wrap ((q : Int) + 3) = (q : Int) + 3 := IntWalk.i64_in _ (by omega)
      have t1 : ((q : Int) + 1).toNat = q + 1 := by omega
      have t2 : ((q : Int) + 2).toNat = q + 2 := by omega
      have t3 : ((q : Int) + 3).toNat = q + 3 := by omega
      have b0 : (0 : Int) ≤ (q : Int) := by omega
      have b1 : (q : Int) < (N : Int) := by omega
      have b2 : (0 : Int) ≤ (q : Int) + 1 := by omega
      have b3 : (q : Int) + 1 < (N : Int) := by omega
      have b4 : (0 : Int) ≤ (q : Int) + 2 := by omega
      have b5 : (q : Int) + 2 < (N : Int) := by omega
      have b6 : (0 : Int) ≤ (q : Int) + 3 := by omega
      have b7 : (q : Int) + 3 < (N : Int) := by omega
      have hk9 : k ≤ 1099511627776 := by omega
      clear hS hcell hA hB hC hD sz hss hqd hq hNN sA sB sC sD sAB sABC
      have Hsl := Lib.hid hsl
      clear hsl
      have Hup := Lib.hid hup
      clear hup
      go_wp2_with fail
      go_region_held3 (fun W => Hid (Since w1 W) ∧ W.cell? ⟨g, q, none⟩ = some (.string A) ∧ W.cell? ⟨g, q + 1, none⟩ = some (.string B) ∧ W.cell? ⟨g, q + 2, none⟩ = some (.string C) ∧ W.cell? ⟨g, q + 3, none⟩ = some (.string D))
        (first | exact HS.out _ (by assumption) | exact HS.out _ (Lib.hid hs0.out.drew) | exact HS.out _ (Lib.hid (hs0.out.alloc _)) | exact HS.out _ (Lib.hid ((hs0.out.alloc _).drew)) | exact HS.out _ (Lib.hid ((hs0.out.drew).alloc _)))
        (first | (refine step_one elemS rfl _ _ (by rfl) w1 _ _ k (ss.map Value.string) (by rfl) (by first | exact (pkown HP Hsl.out).alloc _ | exact ((pkown HP Hsl.out).drew).alloc _ | exact ((pkown HP Hsl.out).alloc _).drew) (by first | exact hs0.out.alloc _ | exact (hs0.out.drew).alloc _ | exact (hs0.out.alloc _).drew) _ (.string Y) (by rfl) (by simp [go_sem]) rfl hk9 (by decide) ?_; intro v7 w7 hown7 hS7; have hs7 : Hid (Since w1 w7) := Lib.hid hS7))
      all_goals
        go_wp2_with fail
        go_roundw
        case rel => exact ⟨k + 1, q + 4, by omega, by have := HQ.out; have := HN.out; omega, Lib.hid (by have := HQ.out; omega), by go_num, Lib.hid ⟨by first | exact hS7 | exact Since.drew hS7, by rw [Hup.out]; unfold Strs; rw [List.length_append, List.map_append, Hsl.out]; exact hown7⟩⟩
        case measure => simp [intOf]; omega
    · obtain rfl : k = n + 7 := by omega
      have b1 : ¬ (q : Int) < (N : Int) := by omega
      clear hq hNN
      go_wp2_with fail
      go_ret2
      exact ⟨_, rfl, Strs.read HP.out.own, Since.below (Since.step H1.out HP.out.since)⟩
end RefSched
end Go.Proofs.Ytoblmddnefmpoaa
