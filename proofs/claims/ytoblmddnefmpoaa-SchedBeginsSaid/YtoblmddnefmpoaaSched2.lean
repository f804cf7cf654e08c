/- Package sched: all words, and the keys of rounds. -/
import Derived.Test.YtoblmddnefmpoaaSched
import Derived.Deep.RegionLaw
import Derived.IntWalk
namespace Go.Proofs.Ytoblmddnefmpoaa
open Go.RowKit
namespace Sched
open Rnd

theorem Strs.form {w : World} {b : Nat} {v : Value} {ss : List ByteArray} (h : Strs w b v ss) (hn : 0 < ss.length) : ∃ g cap, v = .slice (some ⟨g, 0, none⟩) ss.length cap := by
  obtain ⟨_, h2⟩ := h
  rcases h2 with ⟨_, h3⟩ | ⟨g, cap, _, h3, _⟩
  · omega
  · exact ⟨g, cap, h3⟩
theorem pkown {w0 W : World} {v : Value} {ss : List ByteArray} {j : Nat} (h : Hid (PK w0 v ss W)) (hj : ss.length = j) : W.ownsRow w0.heap.size 9 1 v j (ss.map Value.string) := by
  subst hj; exact h.out.own

theorem pksince {w0 W : World} {v : Value} {ss : List ByteArray} (h : Hid (PK w0 v ss W)) : Since w0 W := h.out.since
set_option maxRecDepth 100000 in
set_option maxHeartbeats 4000000 in
theorem words_mak (key : ByteArray) (n : Nat) (hn : n = 4 ∨ n = 6 ∨ n = 8) (hk : key.size = 4 * n) : MakS 49 #[.string key] (wordsL key.data.toList n) := by
  intro w
  have hl : key.data.toList.length = 4 * n := hk
  have c1 : Ret 44 #[.int .i64 (key.size : Int)] (.int .i64 ((n : Int) + 6)) := by
    rw [hk]; exact rounds_yes (4 * n) (by omega) _ (by omega)
  have c2 : MakS 68 #[.string key, .int .i64 4] (first key.data.toList n) := Oct.pieces_mak key 4 (by decide) (by decide) (by omega) _ (by
    unfold first; rw [hk, show (4 * n + 4 - 1) / 4 = n from by omega])
  obtain ⟨fs, hfs⟩ : ∃ fs, fs = first key.data.toList n := ⟨_, rfl⟩
  have hfl : fs.length = n := by rw [hfs]; unfold first; rw [Oct.pcs_len]
  have hf4 : ∀ x ∈ fs, x.size = 4 := by rw [hfs]; exact first_size _ n hl
  have hwl : wordsL key.data.toList n = grow fs n (3 * n + 28) := by rw [hfs]; rfl
  rw [← hfs] at c2
  rw [hwl]
  have hn1 : 4 ≤ n ∧ n ≤ 8 := by omega
  obtain ⟨hn4, hn8⟩ := hn1
  have hb0 : (((n : Int) + 6) == 0) = false := by rw [beq_eq_false_iff_ne]; omega
  have HN := Lib.hid hn
  clear hwl hfs hl hk hn
  have Hfl := Lib.hid hfl
  clear hfl
  have Hf4 := Lib.hid hf4
  clear hf4
  go_enter Try.func49, Try.ntmps49
  go_wp2_with fail
  refine (c1).calls ?_
  go_wp2_with fail
  refine (c2 w).mono ?_
  rintro e w1 ⟨v, rfl, ho, hb⟩
  have HP0 : Hid (PK w v fs w1) := Lib.hid ⟨hb, ho⟩
  obtain ⟨g, cap, hv⟩ := Strs.form ho (by rw [Hfl.out]; omega)
  rw [Hfl.out] at hv
  subst hv
  clear ho hb
  go_wp2_with fail
  go_loopw [4, 6] (fun v i wr => ∃ k j : Nat, k ≤ 3 * n + 28 ∧ j ≤ 60 ∧ Hid (j = n + k) ∧ i = .int .i64 (j : Int) ∧ Hid (PK w v (grow fs n k) wr)) (fun _ i _ => 60 - (intOf i).toNat)
  case atStart => exact ⟨0, n, by omega, by omega, Lib.hid rfl, rfl, HP0⟩
  case round =>
    clear HP0
    obtain ⟨k, j, hk, hj60, HJ, rfl, HP⟩ := hrel
    have hjk := HJ.out
    by_cases hlt : k < 3 * n + 28
    · obtain ⟨ss, hss⟩ : ∃ ss, ss = grow fs n k := ⟨_, rfl⟩
      have hsl : ss.length = j := by rw [hss, grow_len, Hfl.out]; omega
      have hs4 : ∀ x ∈ ss, x.size = 4 := by rw [hss]; exact grow_size fs n k (by omega) Hfl.out Hf4.out
      rw [← hss] at HP
      obtain ⟨g2, cap2, hv⟩ := Strs.form HP.out.own (by omega)
      rw [hsl] at hv
      subst hv
      obtain ⟨m, hm⟩ : ∃ m, m = j - 1 := ⟨_, rfl⟩
      obtain ⟨A, hA⟩ : ∃ A, A = ss.getD k ⟨#[]⟩ := ⟨_, rfl⟩
      obtain ⟨B, hB⟩ : ∃ B, B = ss.getD m ⟨#[]⟩ := ⟨_, rfl⟩
      have hA4 : A.size = 4 := hs4 A (by rw [hA, List.getD, List.getElem?_eq_getElem (show k < ss.length by omega)]; exact List.getElem_mem _)
      have hB4 : B.size = 4 := hs4 B (by rw [hB, List.getD, List.getElem?_eq_getElem (show m < ss.length by omega)]; exact List.getElem_mem _)
      have a1 : ∀ W, Hid (PK w (.slice (some ⟨g2, 0, none⟩) j cap2) ss W) → W.cell? ⟨g2, k, none⟩ = some (.string A) := fun W h => by rw [hA]; exact pkcell h k (by omega)
      have a2 : ∀ W, Hid (PK w (.slice (some ⟨g2, 0, none⟩) j cap2) ss W) → W.cell? ⟨g2, m, none⟩ = some (.string B) := fun W h => by rw [hB]; exact pkcell h m (by omega)
      obtain ⟨T, hT⟩ : ∃ T, T = trans B j n := ⟨_, rfl⟩
      have hT4 : T.size = 4 := by rw [hT]; exact trans_size _ _ _ hB4
      have c3 := tr_mak B hB4 j n HN.out (by omega) hj60 T hT
      obtain ⟨Y, hY⟩ : ∃ Y, Y = xorS A T := ⟨_, rfl⟩
      have c4 := xor_m A T (by omega) (by omega) Y hY
      have hgr : grow fs n (k + 1) = ss ++ [Y] := by
        rw [hY, hT, hA, hB, hss]
        show _ ++ [word _ _ _] = _
        unfold word
        rw [show n + k - n = k from by omega, hm, hjk]
      have e1 : IntKind.i64.wrap ((j : Int) - (n : Int)) = (k : Int) := by rw [IntWalk.i64_in _ (by omega)]; omega
      have e2 : IntKind.i64.wrap ((j : Int) - 1) = (m : Int) := by rw [IntWalk.i64_in _ (by omega)]; omega
      have k0 := a1 wr HP
      have m0 := a2 wr HP
      have A1 := Lib.hid a1
      have A2 := Lib.hid a2
      have i1 : (0 : Int) ≤ (k : Int) := by omega
      have i2 : (k : Int) < (j : Int) := by omega
      have i3 : (0 : Int) ≤ (m : Int) := by omega
      have i4 : (m : Int) < (j : Int) := by omega
      have i5 : (j : Int) < 4 * ((n : Int) + 6) + 4 := by omega
      clear a1 a2 hY hT hA hB hss hs4 hm hjk
      have Hgr := Lib.hid hgr
      clear hgr
      have Hsl := Lib.hid hsl
      clear hsl
      go_wp2_with fail
      go_region_law (first
        | (refine step_one elemS rfl _ _ (by rfl) w _ (.slice (some ⟨g2, 0, none⟩) j cap2) j (ss.map Value.string) (by rfl) (pkown (by first | assumption | exact pkdrew (by assumption) | exact pkalloc _ (by assumption) | exact pkdrew (pkalloc _ (by assumption)) | exact pkalloc _ (pkdrew (by assumption))) Hsl.out) (pksince (v := .slice (some ⟨g2, 0, none⟩) j cap2) (ss := ss) (by first | assumption | exact pkdrew (by assumption) | exact pkalloc _ (by assumption) | exact pkdrew (pkalloc _ (by assumption)) | exact pkalloc _ (pkdrew (by assumption)))) _ (.string Y) (by rfl) (by simp [go_sem]) rfl (by omega) (by decide) ?_; intro v7 w7 hown7 hS7)
        | (go_simp; go_at_call 71; refine (c3 _).mono ?_; rintro e w5 ⟨rfl, h5⟩; have hp5 := pkstep h5 (by first | assumption | exact pkdrew (by assumption) | exact pkalloc _ (by assumption) | exact pkdrew (pkalloc _ (by assumption)) | exact pkalloc _ (pkdrew (by assumption))); have k5 := A1.out _ hp5; clear h5)
        | (go_simp; go_at_call 61; refine (c4 _).mono ?_; rintro e w6 ⟨rfl, h6⟩; have hp6 := pkstep h6 (by first | assumption | exact pkdrew (by assumption) | exact pkalloc _ (by assumption) | exact pkdrew (pkalloc _ (by assumption)) | exact pkalloc _ (pkdrew (by assumption))); clear h6))
      all_goals
        go_wp2_with fail
        go_roundw
        case rel => exact ⟨k + 1, j + 1, by omega, by have := HJ.out; omega, Lib.hid (by have := HJ.out; omega), by go_num, Lib.hid ⟨by first | exact hS7 | exact Since.drew hS7, by rw [Hgr.out]; unfold Strs; rw [List.length_append, List.map_append, Hsl.out]; exact hown7⟩⟩
        case measure => simp [intOf]; omega
    · obtain rfl : k = 3 * n + 28 := by omega
      have i5 : ¬ (j : Int) < 4 * ((n : Int) + 6) + 4 := by omega
      clear hjk
      go_wp2_with fail
      go_ret
      exact ⟨_, rfl, HP.out.own, HP.out.since⟩
end Sched
end Go.Proofs.Ytoblmddnefmpoaa
