/- Joined texts. -/
-- PACK: YtijpmfnomdngpaaAes8 YtijpmfnomdngpaaAes9 YtijpmfnomdngpaaAes10 YtijpmfnomdngpaaAes11 YtijpmfnomdngpaaAesAwake YtijpmfnomdngpaaCbc YtijpmfnomdngpaaRefCbc YtijpmfnomdngpaaCbcAwake
import Derived.Test.YtijpmfnomdngpaaPk27
import Derived.ScopeJumps
import Derived.WalkMore
import Derived.Test.YtijpmfnomdngpaaPk26
import Derived.Test.YtijpmfnomdngpaaPk13

/- Package aes: a block decrypted by a cipher. -/
namespace Go.Proofs.Ytijpmfnomdngpaa
open Go.RowKit
namespace Aes
open Rnd

set_option maxHeartbeats 2000000 in
theorem dec_no (c : Nat) (ks : List ByteArray) (n : Nat) (len : Int) (hn : (len == 0) = false) (s : ByteArray) (hs : s.size ≠ 16) (hm : s.size ≤ 140737488355328) (w : World) (hC : Cip w c ks n len) :
    Calls Try.prog 24 #[.pointer (some ⟨c, 0, none⟩), .string s] w fun e w' => e = .returned (.tuple #[.string ⟨#[]⟩, .int .i64 4]) ∧ Since w w' := by
  have c1 := read_no c ks n len hn s hs hm w hC
  have HC1 := Lib.hid c1
  clear hC hs c1
  go_enter Try.func24, Try.ntmps24
  go_wp2_with fail
  go_step3
  go_wp2_with fail
  refine HC1.out.mono ?_
  rintro e w2 ⟨rfl, h2⟩
  have hs2 := Lib.hid (Since.alloc h2 (.cells Z16 59))
  have hb2 := Lib.hid (Go.heap_alloc_new w2 (.cells Z16 59))
  have hg := Lib.hid (Below.size h2)
  clear h2
  go_wp2_with (refine wpList_store_row rfl 59 _ _ rfl w2.heap.size Z16 (by rfl) (by rfl) _ _ hb2.out i16 rfl z16_one ?_)
  rw [Exit.noGoto_ret]
  go_ret2
  exact ⟨rfl, below_setRow hs2.out hg.out _⟩

set_option maxRecDepth 100000 in
set_option maxHeartbeats 4000000 in
theorem dec_yes (c : Nat) (ks : List ByteArray) (n : Nat) (hn14 : n ≤ 14) (hn1 : 1 ≤ n) (len : Int) (hn : (len == 0) = false) (s : ByteArray) (hs : s.size = 16) (X : ByteArray) (hX : X = bs (decL ks n s.data.toList)) (w : World) (hC : Cip w c ks n len) :
    Calls Try.prog 24 #[.pointer (some ⟨c, 0, none⟩), .string s] w fun e w' => e = .returned (.tuple #[.string X, .int .i64 0]) ∧ Since w w' := by
  have HL : Hid (s.data.toList.length = 16) := Lib.hid hs
  obtain ⟨D, hD⟩ : ∃ D, D = blC s.data.toList := ⟨_, rfl⟩
  have hDs : D.size = 16 := by rw [hD, blC_size]
  have hD1 : D.all (·.oneCell') = true := by rw [hD]; exact blC_one _
  have iD : (Try.prog.info? 59).map (·.size) = some D.size := by rw [hDs]; exact i16
  have HC1 := Lib.hid (read_yes c ks n len hn s hs D hD w hC)
  have HC := Lib.hid hC
  have HX := Lib.hid hX
  clear hC hX hs
  have HDs := Lib.hid hDs
  clear hDs
  have HD1 := Lib.hid hD1
  clear hD1
  have H_iD := Lib.hid iD
  clear iD
  have HD := Lib.hid hD
  clear hD
  go_enter Try.func24, Try.ntmps24
  go_wp2_with fail
  refine wp_scope_jumps 0 (fun a' w' => ∃ (b j : Nat) (i : Int) (u1 u2 u3 u4 u5 u7 u9 u10 u11 u12 u13 u14 u15 u16 u17 u18 u19 u20 u21 u22 u23 u24 u25 u26 u27 u28 u29 u30 u31 u32 u33 u34 u35 u36 u37 u38 u39 u40 u41 u42 u43 u44 u45 u46 u47 u48 u49 u50 u51 : Value), a' = { tmps := #[.pointer (some ⟨c, 0, none⟩), u1, u2, u3, u4, u5, .pointer (some ⟨b, 0, none⟩), u7, .int .i64 i, u9, u10, u11, u12, u13, u14, u15, u16, u17, u18, u19, u20, u21, u22, u23, u24, u25, u26, u27, u28, u29, u30, u31, u32, u33, u34, u35, u36, u37, u38, u39, u40, u41, u42, u43, u44, u45, u46, u47, u48, u49, u50, u51], defers := [] } ∧ i = (j : Int) ∧ 1 ≤ j ∧ j ≤ n ∧ Hid (w.heap.size ≤ b) ∧ Hid (w'.heap[b]? = some (.cells (blC (bwdL ks n s.data.toList (n - j))) 59 (0, 0))) ∧ Hid (Since w w')) (fun a' _ => (intOf (a'.tmps.getD 8 undef)).toNat) rfl ?_ ?_
  · go_wp2_with fail
    refine HC1.out.mono ?_
    rintro e w2 ⟨rfl, h2⟩
    have hset := World.setRow_alloc_new w2 Z16 D 59
    have hb2 := Go.heap_alloc_new w2 (.cells D 59)
    have hz2 := Go.heap_alloc_new w2 (.cells Z16 59)
    have hs2 : Since w (w2.alloc (.cells D 59)) := Since.alloc h2 _
    obtain ⟨b, hb⟩ : ∃ b, b = w2.heap.size := ⟨_, rfl⟩
    have hg : w.heap.size ≤ b := by rw [hb]; exact Below.size h2
    have hcn := (HC.out.since hs2).rd
    unfold Z16 at hset
    have Hset := Lib.hid hset
    clear hset
    have Hz2 := Lib.hid hz2
    clear hz2
    go_wp2_with (refine wpList_store_row rfl 59 _ _ rfl w2.heap.size D (by rfl) (by rfl) _ _ Hz2.out H_iD.out (by rw [HDs.out]; rfl) HD1.out ?_; rw [Hset.out])
    rw [← hb] at hb2 ⊢
    obtain ⟨W, hW⟩ : ∃ W, W = w2.alloc (.cells D 59) := ⟨_, rfl⟩
    rw [← hW] at hb2 hs2 hcn ⊢
    obtain ⟨j, hj⟩ : ∃ j, j = n := ⟨_, rfl⟩
    have hjn : (n : Int) = (j : Int) := by rw [hj]
    have HB : Hid (W.heap[b]? = some (.cells (blC (bwdL ks n s.data.toList (n - j))) 59 (0, 0))) := Lib.hid (by rw [hj, Nat.sub_self, bwdL, ← HD.out]; exact hb2)
    have HS := Lib.hid hs2
    have Hg := Lib.hid hg
    have hj1 : 1 ≤ j := by omega
    have hjn2 : j ≤ n := by omega
    rw [hjn]
    clear hb2 hs2 hcn hg hb hW h2 Hset Hz2 hj hjn
    go_step3
    have hcn := (HC.out.since HS.out).rd
    obtain ⟨F, hF⟩ : ∃ F, F = blC (bwdL ks n s.data.toList (n - j)) := ⟨_, rfl⟩
    rw [← hF] at HB
    obtain ⟨Kj, hKj⟩ : ∃ K, K = blC (rk ks j) := ⟨_, rfl⟩
    obtain ⟨E, hE⟩ : ∃ E, E = blC (bwdL ks n s.data.toList (n - (j - 1))) := ⟨_, rfl⟩
    obtain ⟨q, hq⟩ : ∃ q, q = decide (j = n) := ⟨_, rfl⟩
    have hqe : ((j : Int) == (n : Int)) = q := by
      rw [hq]
      by_cases h : j = n
      · rw [decide_eq_true h, beq_iff_eq, h]
      · rw [decide_eq_false h, beq_eq_false_iff_ne]; omega
    have hEe : E = blC (undoL q (bwdL ks n s.data.toList (n - j)) (rk ks j)) := by
      rw [hE, hq, show n - (j - 1) = (n - j) + 1 from by omega, bwdL, show n - (n - j) = j from by omega]
    have c1 := undo_calls (bwdL ks n s.data.toList (n - j)) (rk ks j) (bwdL_len _ _ _ HL.out _) c q F Kj E hF hKj hEe W.drew ((HC.out.since HS.out).tb.since (Since.drew (Since.refl _)))
    have l1 : (Instr.loadAt 59 (.pointer (some ⟨b, 0, none⟩))).run Try.prog W.drew = .ok (.agg F) W.drew := row_load _ _ _ (by rw [hF, blC_size]) HB.out
    have l2 : (Instr.loadAt 59 (.pointer (some ⟨c, 1794 + j * 16, none⟩))).run Try.prog W.drew = .ok (.agg Kj) W.drew := key_load _ _ _ _ _ (HC.out.since (Since.drew HS.out)) j _ (by omega) (by omega) _ hKj
    have i1 : (0 : Int) ≤ (j : Int) := by omega
    have i2 : (j : Int) < 15 := by omega
    have hFs : F.size = 16 := by rw [hF, blC_size]
    have hEs : E.size = 16 := by rw [hE, blC_size]
    have hE1 : E.all (·.oneCell') = true := by rw [hE]; exact blC_one _
    have iE : (Try.prog.info? 59).map (·.size) = some E.size := by rw [hEs]; exact i16
    clear hq hEe hF hKj
    have HE := Lib.hid hE
    clear hE
    have HFs := Lib.hid hFs
    clear hFs
    have HEs := Lib.hid hEs
    clear hEs
    have HE1 := Lib.hid hE1
    clear hE1
    have H_iE := Lib.hid iE
    clear iE
    have H_c1 := Lib.hid c1
    clear c1
    go_wp2_with fail
    refine wp_region_still_tail 16 (by kernel_rfl) (by kernel_rfl) ?_
    simp only [List.take_succ_cons, List.take_zero, List.drop_succ_cons, List.drop_zero]
    change wpStill _ _ W.drew (fun a' => wpList _ _ _ _ a' W.drew) _ _
    repeat (first
      | ((with_reducible refine wpStill_load (some 25) 59 (.tmp 6) _ _ ?_ l1 ?_) <;> try rfl)
      | ((with_reducible refine wpStill_load (some 31) 59 (.tmp 30) _ _ ?_ l2 ?_) <;> try rfl)
      | (refine wpStill_step (fun K hK => ?_); go_simp; refine hK _ ?_; clear hK K))
    refine wpStill_nil ?_
    go_wp2_with fail
    refine H_c1.out.mono ?_
    rintro e w3 ⟨rfl, h3⟩
    have hb3 := (h3.block b (by have := lt_of_heap HB.out; simp; omega)).trans HB.out
    have hs3 := Since.step (Since.drew HS.out) h3
    clear h3 l1 l2 HB HS hcn
    have HB4 := Lib.hid (row_set (D := E) hb3)
    have HS4 : Hid (Since w (w3.setRow b E)) := Lib.hid (below_setRow hs3 Hg.out _)
    have Hb3 := Lib.hid hb3
    clear hb3
    have Hs3 := Lib.hid hs3
    clear hs3
    by_cases hj2 : 1 < j
    · have hd : decide ((0 : Int) < (j : Int) - 1) = true := decide_eq_true (by omega)
      have hd2 : decide ((1 : Int) < (j : Int)) = true := decide_eq_true (by omega)
      go_wp2_with (refine wpList_store_row rfl 59 _ _ rfl b E (by rfl) (by rfl) _ _ Hb3.out H_iE.out (by rw [HFs.out, HEs.out]) HE1.out ?_)
      go_step3
      have ej : ((j - 1 : Nat) : Int) = (j : Int) - 1 := by omega
      exact ⟨rfl, b, j - 1, _, _, _, _, _, _, _, _, _, _, _, _, _, _, _, _, _, _, _, _, _, _, _, _, _, _, _, _, _, _, _, _, _, _, _, _, _, _, _, _, _, _, _, _, _, _, _, _, _, _, rfl, by omega, by omega, by omega, Hg, Lib.hid (by rw [← HE.out]; exact HB4.out), HS4⟩
    · obtain ⟨K0, hK0⟩ : ∃ K, K = blC (rk ks 0) := ⟨_, rfl⟩
      obtain ⟨G, hG⟩ : ∃ E, E = blC (decL ks n s.data.toList) := ⟨_, rfl⟩
      have hG2 : G = blC (xorL (bwdL ks n s.data.toList (n - (j - 1))) (rk ks 0)) := by
        rw [hG, decL, show n - (j - 1) = n from by omega]
      have ca := add_mak _ _ E K0 G HE.out hK0 hG2
      have hd : decide ((0 : Int) < (j : Int) - 1) = false := decide_eq_false (by omega)
      have hd2 : decide ((1 : Int) < (j : Int)) = false := decide_eq_false (by omega)
      obtain ⟨W, hW⟩ : ∃ W, W = w3.setRow b E := ⟨_, rfl⟩
      have hWW := hW
      rw [← hW] at HB4 HS4
      have l1 : (Instr.loadAt 59 (.pointer (some ⟨b, 0, none⟩))).run Try.prog W.drew = .ok (.agg E) W.drew := row_load _ _ _ HEs.out HB4.out
      have l2 : (Instr.loadAt 59 (.pointer (some ⟨c, 1794, none⟩))).run Try.prog W.drew = .ok (.agg K0) W.drew := key_load _ _ _ _ _ (HC.out.since (Since.drew HS4.out)) 0 _ (by omega) rfl _ hK0
      have hGs : G.size = 16 := by rw [hG, blC_size]
      have hG1 : G.all (·.oneCell') = true := by rw [hG]; exact blC_one _
      have iG : (Try.prog.info? 59).map (·.size) = some G.size := by rw [hGs]; exact i16
      clear hW hG2 hK0
      have HG := Lib.hid hG
      clear hG
      have HGs := Lib.hid hGs
      clear hGs
      have HG1 := Lib.hid hG1
      clear hG1
      have H_iG := Lib.hid iG
      clear iG
      have H_ca := Lib.hid ca
      clear ca
      have HWW := Lib.hid hWW
      clear hWW
      go_wp2_with (refine wpList_store_row rfl 59 _ _ rfl b E (by rfl) (by rfl) _ _ Hb3.out H_iE.out (by rw [HFs.out, HEs.out]) HE1.out ?_)
      rw [← HWW.out]
      refine wp_region_still_tail 6 (by kernel_rfl) (by kernel_rfl) ?_
      simp only [List.take_succ_cons, List.take_zero, List.drop_succ_cons, List.drop_zero]
      change wpStill _ _ W.drew (fun a' => wpList _ _ _ _ a' W.drew) _ _
      repeat (first
        | ((with_reducible refine wpStill_load (some 43) 59 (.tmp 6) _ _ ?_ l1 ?_) <;> try rfl)
        | ((with_reducible refine wpStill_load (some 48) 59 (.tmp 47) _ _ ?_ l2 ?_) <;> try rfl)
        | (refine wpStill_step (fun K hK => ?_); go_simp; refine hK _ ?_; clear hK K))
      refine wpStill_nil ?_
      go_wp2_with fail
      refine (H_ca.out _).mono ?_
      rintro e w4 ⟨rfl, h4⟩
      have hb5 := (h4.block b (by have := lt_of_heap HB4.out; simp; omega)).trans HB4.out
      have hs5 := Since.step (Since.drew HS4.out) h4
      clear h4 l1 l2
      have HB6 := Lib.hid (row_set (D := G) hb5)
      have HS6 : Hid (Since w (w4.setRow b G)) := Lib.hid (below_setRow hs5 Hg.out _)
      have hsl : ∀ w', (Instr.sliceAt 59 (.pointer (some ⟨b, 0, none⟩)) none none none).run Try.prog w' = .ok (.slice (some ⟨b, 0, none⟩) 16 16) w' := slice_b _ _
      have hcv := conv16 _ (decL_len ks n s.data.toList) (w4.setRow b G) b (by rw [← HG.out]; exact HB6.out)
      rw [← HX.out] at hcv
      have Hb5 := Lib.hid hb5
      clear hb5
      have Hs5 := Lib.hid hs5
      clear hs5
      go_wp2_with (refine wpList_store_row rfl 59 _ _ rfl b G (by rfl) (by rfl) _ _ Hb5.out H_iG.out (by rw [HEs.out, HGs.out]) HG1.out ?_)
      simp only [Exit.jump]
      go_ret2
      exact ⟨rfl, HS6.out⟩
  · rintro a' w' ⟨b, j, i, u1, u2, u3, u4, u5, u7, u9, u10, u11, u12, u13, u14, u15, u16, u17, u18, u19, u20, u21, u22, u23, u24, u25, u26, u27, u28, u29, u30, u31, u32, u33, u34, u35, u36, u37, u38, u39, u40, u41, u42, u43, u44, u45, u46, u47, u48, u49, u50, u51, rfl, rfl, hj1, hjn2, Hg, HB, HS⟩
    have hcn := (HC.out.since HS.out).rd
    obtain ⟨F, hF⟩ : ∃ F, F = blC (bwdL ks n s.data.toList (n - j)) := ⟨_, rfl⟩
    rw [← hF] at HB
    obtain ⟨Kj, hKj⟩ : ∃ K, K = blC (rk ks j) := ⟨_, rfl⟩
    obtain ⟨E, hE⟩ : ∃ E, E = blC (bwdL ks n s.data.toList (n - (j - 1))) := ⟨_, rfl⟩
    obtain ⟨q, hq⟩ : ∃ q, q = decide (j = n) := ⟨_, rfl⟩
    have hqe : ((j : Int) == (n : Int)) = q := by
      rw [hq]
      by_cases h : j = n
      · rw [decide_eq_true h, beq_iff_eq, h]
      · rw [decide_eq_false h, beq_eq_false_iff_ne]; omega
    have hEe : E = blC (undoL q (bwdL ks n s.data.toList (n - j)) (rk ks j)) := by
      rw [hE, hq, show n - (j - 1) = (n - j) + 1 from by omega, bwdL, show n - (n - j) = j from by omega]
    have c1 := undo_calls (bwdL ks n s.data.toList (n - j)) (rk ks j) (bwdL_len _ _ _ HL.out _) c q F Kj E hF hKj hEe w'.drew ((HC.out.since HS.out).tb.since (Since.drew (Since.refl _)))
    have l1 : (Instr.loadAt 59 (.pointer (some ⟨b, 0, none⟩))).run Try.prog w'.drew = .ok (.agg F) w'.drew := row_load _ _ _ (by rw [hF, blC_size]) HB.out
    have l2 : (Instr.loadAt 59 (.pointer (some ⟨c, 1794 + j * 16, none⟩))).run Try.prog w'.drew = .ok (.agg Kj) w'.drew := key_load _ _ _ _ _ (HC.out.since (Since.drew HS.out)) j _ (by omega) (by omega) _ hKj
    have i1 : (0 : Int) ≤ (j : Int) := by omega
    have i2 : (j : Int) < 15 := by omega
    have hFs : F.size = 16 := by rw [hF, blC_size]
    have hEs : E.size = 16 := by rw [hE, blC_size]
    have hE1 : E.all (·.oneCell') = true := by rw [hE]; exact blC_one _
    have iE : (Try.prog.info? 59).map (·.size) = some E.size := by rw [hEs]; exact i16
    clear hq hEe hF hKj
    have HE := Lib.hid hE
    clear hE
    have HFs := Lib.hid hFs
    clear hFs
    have HEs := Lib.hid hEs
    clear hEs
    have HE1 := Lib.hid hE1
    clear hE1
    have H_iE := Lib.hid iE
    clear iE
    have H_c1 := Lib.hid c1
    clear c1
    go_wp2_with fail
    refine wp_region_still_tail 16 (by kernel_rfl) (by kernel_rfl) ?_
    simp only [List.take_succ_cons, List.take_zero, List.drop_succ_cons, List.drop_zero]
    change wpStill _ _ w'.drew (fun a' => wpList _ _ _ _ a' w'.drew) _ _
    repeat (first
      | ((with_reducible refine wpStill_load (some 25) 59 (.tmp 6) _ _ ?_ l1 ?_) <;> try rfl)
      | ((with_reducible refine wpStill_load (some 31) 59 (.tmp 30) _ _ ?_ l2 ?_) <;> try rfl)
      | (refine wpStill_step (fun K hK => ?_); go_simp; refine hK _ ?_; clear hK K))
    refine wpStill_nil ?_
    go_wp2_with fail
    refine H_c1.out.mono ?_
    rintro e w3 ⟨rfl, h3⟩
    have hb3 := (h3.block b (by have := lt_of_heap HB.out; simp; omega)).trans HB.out
    have hs3 := Since.step (Since.drew HS.out) h3
    clear h3 l1 l2 HB HS hcn
    have HB4 := Lib.hid (row_set (D := E) hb3)
    have HS4 : Hid (Since w (w3.setRow b E)) := Lib.hid (below_setRow hs3 Hg.out _)
    have Hb3 := Lib.hid hb3
    clear hb3
    have Hs3 := Lib.hid hs3
    clear hs3
    by_cases hj2 : 1 < j
    · have hd : decide ((0 : Int) < (j : Int) - 1) = true := decide_eq_true (by omega)
      have hd2 : decide ((1 : Int) < (j : Int)) = true := decide_eq_true (by omega)
      go_wp2_with (refine wpList_store_row rfl 59 _ _ rfl b E (by rfl) (by rfl) _ _ Hb3.out H_iE.out (by rw [HFs.out, HEs.out]) HE1.out ?_)
      go_step3
      have ej : ((j - 1 : Nat) : Int) = (j : Int) - 1 := by omega
      exact ⟨rfl, ⟨b, j - 1, _, _, _, _, _, _, _, _, _, _, _, _, _, _, _, _, _, _, _, _, _, _, _, _, _, _, _, _, _, _, _, _, _, _, _, _, _, _, _, _, _, _, _, _, _, _, _, _, _, _, rfl, by omega, by omega, by omega, Hg, Lib.hid (by rw [← HE.out]; exact HB4.out), HS4⟩, by simp [intOf]; omega⟩
    · obtain ⟨K0, hK0⟩ : ∃ K, K = blC (rk ks 0) := ⟨_, rfl⟩
      obtain ⟨G, hG⟩ : ∃ E, E = blC (decL ks n s.data.toList) := ⟨_, rfl⟩
      have hG2 : G = blC (xorL (bwdL ks n s.data.toList (n - (j - 1))) (rk ks 0)) := by
        rw [hG, decL, show n - (j - 1) = n from by omega]
      have ca := add_mak _ _ E K0 G HE.out hK0 hG2
      have hd : decide ((0 : Int) < (j : Int) - 1) = false := decide_eq_false (by omega)
      have hd2 : decide ((1 : Int) < (j : Int)) = false := decide_eq_false (by omega)
      obtain ⟨W, hW⟩ : ∃ W, W = w3.setRow b E := ⟨_, rfl⟩
      have hWW := hW
      rw [← hW] at HB4 HS4
      have l1 : (Instr.loadAt 59 (.pointer (some ⟨b, 0, none⟩))).run Try.prog W.drew = .ok (.agg E) W.drew := row_load _ _ _ HEs.out HB4.out
      have l2 : (Instr.loadAt 59 (.pointer (some ⟨c, 1794, none⟩))).run Try.prog W.drew = .ok (.agg K0) W.drew := key_load _ _ _ _ _ (HC.out.since (Since.drew HS4.out)) 0 _ (by omega) rfl _ hK0
      have hGs : G.size = 16 := by rw [hG, blC_size]
      have hG1 : G.all (·.oneCell') = true := by rw [hG]; exact blC_one _
      have iG : (Try.prog.info? 59).map (·.size) = some G.size := by rw [hGs]; exact i16
      clear hW hG2 hK0
      have HG := Lib.hid hG
      clear hG
      have HGs := Lib.hid hGs
      clear hGs
      have HG1 := Lib.hid hG1
      clear hG1
      have H_iG := Lib.hid iG
      clear iG
      have H_ca := Lib.hid ca
      clear ca
      have HWW := Lib.hid hWW
      clear hWW
      go_wp2_with (refine wpList_store_row rfl 59 _ _ rfl b E (by rfl) (by rfl) _ _ Hb3.out H_iE.out (by rw [HFs.out, HEs.out]) HE1.out ?_)
      rw [← HWW.out]
      refine wp_region_still_tail 6 (by kernel_rfl) (by kernel_rfl) ?_
      simp only [List.take_succ_cons, List.take_zero, List.drop_succ_cons, List.drop_zero]
      change wpStill _ _ W.drew (fun a' => wpList _ _ _ _ a' W.drew) _ _
      repeat (first
        | ((with_reducible refine wpStill_load (some 43) 59 (.tmp 6) _ _ ?_ l1 ?_) <;> try rfl)
        | ((with_reducible refine wpStill_load (some 48) 59 (.tmp 47) _ _ ?_ l2 ?_) <;> try rfl)
        | (refine wpStill_step (fun K hK => ?_); go_simp; refine hK _ ?_; clear hK K))
      refine wpStill_nil ?_
      go_wp2_with fail
      refine (H_ca.out _).mono ?_
      rintro e w4 ⟨rfl, h4⟩
      have hb5 := (h4.block b (by have := lt_of_heap HB4.out; simp; omega)).trans HB4.out
      have hs5 := Since.step (Since.drew HS4.out) h4
      clear h4 l1 l2
      have HB6 := Lib.hid (row_set (D := G) hb5)
      have HS6 : Hid (Since w (w4.setRow b G)) := Lib.hid (below_setRow hs5 Hg.out _)
      have hsl : ∀ w', (Instr.sliceAt 59 (.pointer (some ⟨b, 0, none⟩)) none none none).run Try.prog w' = .ok (.slice (some ⟨b, 0, none⟩) 16 16) w' := slice_b _ _
      have hcv := conv16 _ (decL_len ks n s.data.toList) (w4.setRow b G) b (by rw [← HG.out]; exact HB6.out)
      rw [← HX.out] at hcv
      have Hb5 := Lib.hid hb5
      clear hb5
      have Hs5 := Lib.hid hs5
      clear hs5
      go_wp2_with (refine wpList_store_row rfl 59 _ _ rfl b G (by rfl) (by rfl) _ _ Hb5.out H_iG.out (by rw [HEs.out, HGs.out]) HG1.out ?_)
      simp only [Exit.jump]
      go_ret2
      exact ⟨rfl, HS6.out⟩
end Aes
end Go.Proofs.Ytijpmfnomdngpaa

/- Package aes: a cipher is made. -/
namespace Go.Proofs.Ytijpmfnomdngpaa
open Go.RowKit
namespace Aes
open Rnd

theorem cipF_lo (ks : List ByteArray) (len r : Int) (k p : Nat) (h : p < 1792) : cipF ks len r k p = tabV p := by unfold cipF; rw [if_pos h]
theorem cip_of_row {w : World} {c t : Nat} {ks : List ByteArray} {n : Nat} {len : Int} (h : w.rowIs c t 2034 (cipF ks len (n : Int) (n + 1))) (hn : n ≤ 14) : Cip w c ks n len := by
  refine ⟨⟨h.lt, fun p hp => ?_⟩, ?_, ?_, fun j hj i hi => ?_⟩
  · rw [h.cell (by omega), cipF_lo _ _ _ _ _ hp]
  · rw [h.cell (by omega)]; rfl
  · rw [h.cell (by omega)]; rfl
  · rw [h.cell (by omega)]
    unfold cipF
    rw [if_neg (by omega), if_neg (by omega), if_neg (by omega), if_pos (by omega), show (1794 + 16 * j + i - 1794) / 16 = j from by omega, show (1794 + 16 * j + i - 1794) % 16 = i from by omega]
theorem cip_step (ks : List ByteArray) (len r : Int) (k : Nat) (l : List UInt8) (hl : l = rk ks k) (hs : l.length = 16) (p : Nat) : putAt (cipF ks len r k) (1794 + 16 * k) l p = cipF ks len r (k + 1) p := by
  unfold putAt
  by_cases h : 1794 + 16 * k ≤ p ∧ p < 1794 + 16 * k + l.length
  · rw [if_pos h]
    unfold cipF
    rw [if_neg (by omega), if_neg (by omega), if_neg (by omega), if_pos (by omega), show (p - 1794) / 16 = k from by omega, ← hl]
    unfold blV ent
    rw [show (p - 1794) % 16 = p - (1794 + 16 * k) from by omega]
  · rw [if_neg h]
    unfold cipF
    by_cases h1 : p < 1792
    · rw [if_pos h1, if_pos h1]
    · rw [if_neg h1, if_neg h1]
      by_cases h2 : p = 1792
      · rw [if_pos h2, if_pos h2]
      · rw [if_neg h2, if_neg h2]
        by_cases h3 : p = 1793
        · rw [if_pos h3, if_pos h3]
        · rw [if_neg h3, if_neg h3]
          by_cases h4 : p < 1794 + 16 * k
          · rw [if_pos h4, if_pos (by omega)]
          · rw [if_neg h4, if_neg (by omega)]
/-- a call that makes a cipher -/
def MakC (f : Nat) (args : Array Value) (ks : List ByteArray) (n : Nat) (len : Int) : Prop := ∀ w, Calls Try.prog f args w fun e w' => ∃ c : Nat, e = .returned (.tuple #[.pointer (some ⟨c, 0, none⟩), .int .i64 0]) ∧ Cip w' c ks n len ∧ Since w w'
set_option maxHeartbeats 2000000 in
theorem new_no (key : ByteArray) (hm : key.size ≤ 1000000) (h : ¬ keyOk key) : Ret 20 #[.string key] (.tuple #[.pointer none, .int .i64 2]) := by
  intro w
  unfold keyOk at h
  have c1 := Sched.keys_no key hm (by omega)
  clear h
  go_enter Try.func20, Try.ntmps20
  go_wp2_with fail
  refine (c1).calls ?_
  go_wp2_with fail
  go_ret2
  exact ⟨rfl, rfl⟩
set_option maxRecDepth 100000 in
set_option maxHeartbeats 4000000 in
theorem new_yes (key : ByteArray) (n : Nat) (hn : n = 4 ∨ n = 6 ∨ n = 8) (hk : key.size = 4 * n) : MakC 20 #[.string key] (Sched.keysL key.data.toList n) (n + 6) (key.size : Int) := by
  intro w
  have H0 := Lib.hid (Since.refl w)
  have c1 := Sched.keys_yes key n hn hk
  have c2 := tables_mak
  have c3 : Ret 55 #[.int .i64 (key.size : Int)] (.int .i64 ((n : Int) + 6)) := by
    rw [hk]; exact Sched.rounds_yes (4 * n) (by omega) _ (by omega)
  have hl : key.data.toList.length = 4 * n := hk
  have hkl := Sched.keysL_len key.data.toList n
  have hcl := Sched.catw_len key.data.toList n (by omega) hl
  obtain ⟨ks, hks⟩ : ∃ ks, ks = Sched.keysL key.data.toList n := ⟨_, rfl⟩
  have hsz : ∀ i, i < n + 7 → (ks.getD i ⟨#[]⟩).size = 16 := fun i hi => by
    rw [hks]; unfold Sched.keysL Oct.pcs
    simp only [List.getD, List.getElem?_map, List.getElem?_range hi, Option.map_some, Option.getD_some]
    unfold Oct.pc
    rw [size_bs, List.length_take, List.length_drop, hcl]
    omega
  rw [← hks] at c1 hkl ⊢
  obtain ⟨C, hC⟩ : ∃ C, C = tbC := ⟨_, rfl⟩
  rw [← hC] at c2
  obtain ⟨X, hX, hXs, hX0, hX1, hX2, hX3⟩ := builtC C (by rw [hC, tbC_size]) (key.size : Int) ((n : Int) + 6)
  have hXr : ∀ i, i < 2034 → X[i]? = some (cipF ks (key.size : Int) (((n + 6 : Nat)) : Int) 0 i) := fun i hi => by
    by_cases h0 : i < 1792
    · rw [hX0 i h0, cipF_lo _ _ _ _ _ h0, hC, tbC_at i h0]
    · by_cases h1 : i = 1792
      · subst h1; rw [hX1]; rfl
      · by_cases h2 : i = 1793
        · subst h2; rw [hX2]; rfl
        · rw [hX3 i (by omega) hi]
          unfold cipF
          rw [if_neg h0, if_neg h1, if_neg h2, if_neg (by omega)]
  have HBD := Lib.hid hX
  have hKZ : Hid (ks.length = n + 7) := Lib.hid hkl
  clear hX hX0 hX1 hX2 hX3 hks hC hl hcl hkl
  have HXs := Lib.hid hXs
  clear hXs
  have HXr := Lib.hid hXr
  clear hXr
  have Hsz := Lib.hid hsz
  clear hsz
  have Hk := Lib.hid hk
  clear hk
  go_enter Try.func20, Try.ntmps20
  go_wp2_with fail
  refine c1.calls H0.out ?_
  intro v1 w1 ho1 hb1 h1
  have hlen : (((n + 7 : Nat) : Int)) = (n : Int) + 7 := by omega
  obtain ⟨b1, o1, cap1, hv, hlt1, hc1⟩ := Sched.StrsR.form ho1 (by rw [hKZ.out]; omega)
  rw [hKZ.out] at hv
  subst hv
  have HC1 := Lib.hid hc1
  have HL1 := Lib.hid hlt1
  have H1 := Lib.hid h1
  clear h1
  clear hb1 hc1 hlt1 ho1
  have H00 := Lib.hid (Since.refl w1)
  go_wp2_with fail
  refine c2.calls H00.out ?_
  intro w2 h2
  have H2 := Lib.hid h2
  clear h2
  go_wp2_with fail
  refine (c3).calls ?_
  go_wp2_with ((with_reducible refine wpList_build_at (some 23) 62 #[(0, .tmp 17), (1, .tmp 19), (2, .tmp 22)] _ X ?_ HBD.out ?_) <;> try rfl)
  have hrow0 : (w2.alloc (.cells X 62)).rowIs w2.heap.size 62 2034 (cipF ks (key.size : Int) (((n + 6 : Nat)) : Int) 0) := by
    have h := World.rowIs_alloc w2 X 62 _ (fun i hi => HXr.out i (by rw [← HXs.out]; exact hi))
    rw [HXs.out] at h
    exact h
  have HR0 := Lib.hid hrow0
  have HS0 : Hid (Since w1 (w2.alloc (.cells X 62))) := Lib.hid (Since.alloc H2.out _)
  have HG : Hid (w1.heap.size ≤ w2.heap.size) := Lib.hid (Below.size H2.out)
  clear hrow0 c1 c2 c3 HBD HXs HXr
  obtain ⟨g, hg⟩ : ∃ g, g = w2.heap.size := ⟨_, rfl⟩
  obtain ⟨W, hW⟩ : ∃ W, W = w2.alloc (.cells X 62) := ⟨_, rfl⟩
  rw [← hW, ← hg] at HR0
  rw [← hW] at HS0
  rw [← hg] at HG
  rw [← hg, ← hW]
  clear hg hW H2 H00 H0
  go_loopw [27] (fun i wr => ∃ k : Nat, k ≤ n + 7 ∧ i = .int .i64 (k : Int) ∧ Hid (wr.rowIs g 62 2034 (cipF ks (key.size : Int) (((n + 6 : Nat)) : Int) k)) ∧ Hid (Since w1 wr)) (fun i _ => n + 7 - (intOf i).toNat)
  case atStart => exact ⟨0, by omega, rfl, HR0, HS0⟩
  case round =>
    clear HR0 HS0
    obtain ⟨k, hk, rfl, HR, HS⟩ := hrel
    by_cases hlt : k < n + 7
    · have hd : decide ((k : Int) < (n : Int) + 7) = true := decide_eq_true (by omega)
      have hck := (HS.out.below.cell (p := ⟨b1, o1 + k, none⟩) HL1.out).trans (HC1.out k (by rw [hKZ.out]; exact hlt))
      have hsk := Hsz.out k hlt
      obtain ⟨S, hS⟩ : ∃ S, S = ks.getD k ⟨#[]⟩ := ⟨_, rfl⟩
      rw [← hS] at hck hsk
      have hrk : S.data.toList = rk ks k := by rw [hS]; rfl
      obtain ⟨w3, hrun, hrow, hbel⟩ := run_copy_str wr S g 62 (1794 + k * 16) 2034 16 16 3 _ (some ⟨g, 1794 + k * 16, none⟩) HR.out (fun _ => rfl) (by omega) (by omega)
      have HR3 : Hid (w3.rowIs g 62 2034 (cipF ks (key.size : Int) (((n + 6 : Nat)) : Int) (k + 1))) := Lib.hid (hrow.congr fun p _ => by rw [Nat.mul_comm k 16]; exact cip_step ks _ _ k _ hrk hsk p)
      have HS3 : Hid (Since w1 w3) := Lib.hid (hbel _ _ HS.out HG.out)
      have hsl : ∀ w', (Instr.sliceAt 59 (.pointer (some ⟨g, 1794 + k * 16, none⟩)) none none none).run Try.prog w' = .ok (.slice (some ⟨g, 1794 + k * 16, none⟩) 16 16) w' := slice_b _ _
      have i1 : (0 : Int) ≤ (k : Int) := by omega
      have i2 : (k : Int) < (n : Int) + 7 := by omega
      have i3 : (k : Int) < 15 := by omega
      clear hS hrk hrow hbel hsk
      have Hrun := Lib.hid hrun
      clear hrun
      go_wp2_with ((with_reducible refine Lib.wpList_copy_run (P := Try.prog) _ (o := ⟨some 39, _, _, _, _, _⟩) ?_ (.tmp 37) (.tmp 38) 46 9 ?_ _ _ ?_ ?_ Hrun.out ?_) <;> try rfl)
      go_roundw
      case rel => exact ⟨k + 1, by omega, by go_num, HR3, HS3⟩
      case measure => simp [intOf]; omega
    · have hd : decide ((k : Int) < (n : Int) + 7) = false := decide_eq_false (by omega)
      have hC := cip_of_row (n := n + 6) (by rw [show n + 6 + 1 = k from by omega]; exact HR.out) (by omega)
      have HC := Lib.hid hC
      clear hC
      go_wp2_with fail
      go_ret2
      exact ⟨g, rfl, HC.out, Since.step H1.out HS.out⟩
theorem MakC.calls {f : Nat} {args : Array Value} {ks : List ByteArray} {n : Nat} {len : Int} (h : MakC f args ks n len) {W0 w : World} (hs : Since W0 w) {R : Ending → World → Prop} (k : ∀ c w', Cip w' c ks n len → Since W0 w' → R (.returned (.tuple #[.pointer (some ⟨c, 0, none⟩), .int .i64 0])) w') : Calls Try.prog f args w R :=
  (h w).mono fun _ _ ⟨c, he, hc, hb⟩ => by subst he; exact k c _ hc (hs.step hb)
end Aes
end Go.Proofs.Ytijpmfnomdngpaa

/- Package aes: its functions on blocks. -/
namespace Go.Proofs.Ytijpmfnomdngpaa
open Go.RowKit
namespace Aes
open Rnd

/-- a cipher of a key lies in block c -/
def CipK (w : World) (c : Nat) (key : ByteArray) : Prop := keyOk key ∧ Cip w c (Sched.keysL key.data.toList (key.size / 4)) (key.size / 4 + 6) (key.size : Int)
theorem CipK.since {w w' : World} {c : Nat} {key : ByteArray} (h : CipK w c key) (hs : Since w w') : CipK w' c key := ⟨h.1, h.2.since hs⟩
/-- a call that makes a cipher of a key -/
def MakK (f : Nat) (args : Array Value) (key : ByteArray) : Prop := ∀ (W0 w : World) (_ : Since W0 w) (R : Ending → World → Prop) (_ : ∀ c w', CipK w' c key → Since w w' → Since W0 w' → R (.returned (.tuple #[.pointer (some ⟨c, 0, none⟩), .int .i64 0])) w'), Calls Try.prog f args w R
theorem new_key (key : ByteArray) (hk : keyOk key) : MakK 20 #[.string key] key := by
  intro W0 w hs R k
  have hk2 := hk
  unfold keyOk at hk2
  refine (new_yes key (key.size / 4) (by omega) (by omega) w).mono fun e w' ⟨c, he, hc, hb⟩ => ?_
  subst he
  exact k c w' ⟨hk, hc⟩ hb (hs.step hb)
theorem key_ne {key : ByteArray} (hk : keyOk key) : ((key.size : Int) == 0) = false := by
  unfold keyOk at hk
  rw [beq_eq_false_iff_ne]; omega
theorem key_rn {key : ByteArray} (hk : keyOk key) : key.size / 4 + 6 ≤ 14 ∧ 1 ≤ key.size / 4 + 6 := by
  unfold keyOk at hk; omega
theorem cenc_no (c : Nat) (key b : ByteArray) (hb : b.size ≠ 16) (hm : b.size ≤ 140737488355328) (w : World) (hC : CipK w c key) : Calls Try.prog 23 #[.pointer (some ⟨c, 0, none⟩), .string b] w fun e w' => e = .returned (.tuple #[.string ⟨#[]⟩, .int .i64 4]) ∧ Since w w' :=
  enc_no c _ _ _ (key_ne hC.1) b hb hm w hC.2
theorem cdec_no (c : Nat) (key b : ByteArray) (hb : b.size ≠ 16) (hm : b.size ≤ 140737488355328) (w : World) (hC : CipK w c key) : Calls Try.prog 24 #[.pointer (some ⟨c, 0, none⟩), .string b] w fun e w' => e = .returned (.tuple #[.string ⟨#[]⟩, .int .i64 4]) ∧ Since w w' :=
  dec_no c _ _ _ (key_ne hC.1) b hb hm w hC.2
theorem cenc_yes (c : Nat) (key b : ByteArray) (hb : b.size = 16) (X : ByteArray) (hX : X = encK key b) (w : World) (hC : CipK w c key) : Calls Try.prog 23 #[.pointer (some ⟨c, 0, none⟩), .string b] w fun e w' => e = .returned (.tuple #[.string X, .int .i64 0]) ∧ Since w w' :=
  enc_yes c _ _ (key_rn hC.1).1 (key_rn hC.1).2 _ (key_ne hC.1) b hb X hX w hC.2
theorem cdec_yes (c : Nat) (key b : ByteArray) (hb : b.size = 16) (X : ByteArray) (hX : X = decK key b) (w : World) (hC : CipK w c key) : Calls Try.prog 24 #[.pointer (some ⟨c, 0, none⟩), .string b] w fun e w' => e = .returned (.tuple #[.string X, .int .i64 0]) ∧ Since w w' :=
  dec_yes c _ _ (key_rn hC.1).1 (key_rn hC.1).2 _ (key_ne hC.1) b hb X hX w hC.2
theorem csize (c : Nat) (key : ByteArray) (w : World) (hC : CipK w c key) : Calls Try.prog 22 #[.pointer (some ⟨c, 0, none⟩)] w fun e w' => e = .returned (.int .i64 (key.size : Int)) ∧ w = w' := size_ret c _ w hC.2.ln
theorem encrypt_nokey (key b : ByteArray) (hm : key.size ≤ 1000000) (h : ¬ keyOk key) : Ret 14 #[.string key, .string b] (.tuple #[.string ⟨#[]⟩, .int .i64 2]) := by
  intro w
  have c1 := new_no key hm h
  clear h
  go_enter Try.func14, Try.ntmps14
  go_wp2_with fail
  refine (c1).calls ?_
  go_wp2_with fail
  go_ret2
  exact ⟨rfl, rfl⟩
theorem decrypt_nokey (key b : ByteArray) (hm : key.size ≤ 1000000) (h : ¬ keyOk key) : Ret 16 #[.string key, .string b] (.tuple #[.string ⟨#[]⟩, .int .i64 2]) := by
  intro w
  have c1 := new_no key hm h
  clear h
  go_enter Try.func16, Try.ntmps16
  go_wp2_with fail
  refine (c1).calls ?_
  go_wp2_with fail
  go_ret2
  exact ⟨rfl, rfl⟩
theorem encrypt_nosize (key b : ByteArray) (hk : keyOk key) (hb : b.size ≠ 16) (hm : b.size ≤ 140737488355328) : Mak 14 #[.string key, .string b] (.tuple #[.string ⟨#[]⟩, .int .i64 4]) := by
  intro w
  have c1 := new_key key hk
  have c2 := fun c w hC => cenc_no c key b hb hm w hC
  have H0 := Lib.hid (Since.refl w)
  have C2 := Lib.hid c2
  clear hk c2 hb
  go_enter Try.func14, Try.ntmps14
  go_wp2_with fail
  refine c1 _ _ H0.out _ ?_
  intro c w1 hC _ h1
  have HC := Lib.hid hC
  have H1 := Lib.hid h1
  clear hC h1
  go_wp2_with fail
  refine (C2.out c w1 HC.out).mono ?_
  rintro e w2 ⟨rfl, h2⟩
  have H2 := Lib.hid (Since.step H1.out h2)
  clear h2
  go_wp2_with fail
  go_ret2
  exact ⟨rfl, H2.out⟩
theorem decrypt_nosize (key b : ByteArray) (hk : keyOk key) (hb : b.size ≠ 16) (hm : b.size ≤ 140737488355328) : Mak 16 #[.string key, .string b] (.tuple #[.string ⟨#[]⟩, .int .i64 4]) := by
  intro w
  have c1 := new_key key hk
  have c2 := fun c w hC => cdec_no c key b hb hm w hC
  have H0 := Lib.hid (Since.refl w)
  have C2 := Lib.hid c2
  clear hk c2 hb
  go_enter Try.func16, Try.ntmps16
  go_wp2_with fail
  refine c1 _ _ H0.out _ ?_
  intro c w1 hC _ h1
  have HC := Lib.hid hC
  have H1 := Lib.hid h1
  clear hC h1
  go_wp2_with fail
  refine (C2.out c w1 HC.out).mono ?_
  rintro e w2 ⟨rfl, h2⟩
  have H2 := Lib.hid (Since.step H1.out h2)
  clear h2
  go_wp2_with fail
  go_ret2
  exact ⟨rfl, H2.out⟩
theorem encrypt_yes (key b : ByteArray) (hk : keyOk key) (hb : b.size = 16) (X : ByteArray) (hX : X = encK key b) : Mak 14 #[.string key, .string b] (.tuple #[.string X, .int .i64 0]) := by
  intro w
  have c1 := new_key key hk
  have c2 := fun c w hC => cenc_yes c key b hb X hX w hC
  have H0 := Lib.hid (Since.refl w)
  have C2 := Lib.hid c2
  clear hk c2 hb hX
  go_enter Try.func14, Try.ntmps14
  go_wp2_with fail
  refine c1 _ _ H0.out _ ?_
  intro c w1 hC _ h1
  have HC := Lib.hid hC
  have H1 := Lib.hid h1
  clear hC h1
  go_wp2_with fail
  refine (C2.out c w1 HC.out).mono ?_
  rintro e w2 ⟨rfl, h2⟩
  have H2 := Lib.hid (Since.step H1.out h2)
  clear h2
  go_wp2_with fail
  go_ret2
  exact ⟨rfl, H2.out⟩
theorem decrypt_yes (key b : ByteArray) (hk : keyOk key) (hb : b.size = 16) (X : ByteArray) (hX : X = decK key b) : Mak 16 #[.string key, .string b] (.tuple #[.string X, .int .i64 0]) := by
  intro w
  have c1 := new_key key hk
  have c2 := fun c w hC => cdec_yes c key b hb X hX w hC
  have H0 := Lib.hid (Since.refl w)
  have C2 := Lib.hid c2
  clear hk c2 hb hX
  go_enter Try.func16, Try.ntmps16
  go_wp2_with fail
  refine c1 _ _ H0.out _ ?_
  intro c w1 hC _ h1
  have HC := Lib.hid hC
  have H1 := Lib.hid h1
  clear hC h1
  go_wp2_with fail
  refine (C2.out c w1 HC.out).mono ?_
  rintro e w2 ⟨rfl, h2⟩
  have H2 := Lib.hid (Since.step H1.out h2)
  clear h2
  go_wp2_with fail
  go_ret2
  exact ⟨rfl, H2.out⟩
end Aes
end Go.Proofs.Ytijpmfnomdngpaa

/- Package aes: many blocks. -/
namespace Go.Proofs.Ytijpmfnomdngpaa
open Go.RowKit
namespace Aes
open Rnd RefAes

theorem many_nokey (key s : ByteArray) (back : Bool) (hm : key.size ≤ 1000000) (h : ¬ keyOk key) : Ret 18 #[.string key, .string s, .bool back] (.tuple #[.string ⟨#[]⟩, .int .i64 2]) := by
  intro w
  have c1 := new_no key hm h
  clear h
  go_enter Try.func18, Try.ntmps18
  go_wp2_with fail
  refine (c1).calls ?_
  go_wp2_with fail
  go_ret2
  exact ⟨rfl, rfl⟩
theorem many_nosize (key s : ByteArray) (back : Bool) (hk : keyOk key) (hs : s.size % 16 ≠ 0) (hm : s.size ≤ 140737488355328) : Mak 18 #[.string key, .string s, .bool back] (.tuple #[.string ⟨#[]⟩, .int .i64 4]) := by
  intro w
  have c1 := new_key key hk
  have H0 := Lib.hid (Since.refl w)
  have hn : ((s.size : Int) % 16 == 0) = false := by rw [beq_eq_false_iff_ne]; omega
  have hn2 : ((s.size : Int) % 16 != 0) = true := by rw [bne_iff_ne]; omega
  clear hk hs
  go_enter Try.func18, Try.ntmps18
  go_wp2_with fail
  refine c1 _ _ H0.out _ ?_
  intro c w1 hC _ h1
  have H1 := Lib.hid h1
  clear hC h1
  go_wp2_with fail
  go_ret2
  exact ⟨rfl, H1.out⟩
set_option maxHeartbeats 2000000 in
theorem many_yes (key s : ByteArray) (back : Bool) (hk : keyOk key) (hs : s.size % 16 = 0) (hm : s.size ≤ 1000000) (X : ByteArray) (hX : X = manyK back key s) : Mak 18 #[.string key, .string s, .bool back] (.tuple #[.string X, .int .i64 0]) := by
  intro w
  have c1 := new_key key hk
  have H0 := Lib.hid (Since.refl w)
  have hn : ((s.size : Int) % 16 == 0) = true := by rw [beq_iff_eq]; omega
  have hn2 : ((s.size : Int) % 16 != 0) = false := by rw [bne_eq_false_iff_eq]; omega
  have hmk := Oct.make_row s.size (by omega)
  have HX := Lib.hid hX
  have HM := Lib.hid hs
  clear hk hX hs
  go_enter Try.func18, Try.ntmps18
  go_wp2_with fail
  refine c1 _ _ H0.out _ ?_
  intro c w1 hC _ h1
  have HC := Lib.hid hC
  have H1 := Lib.hid h1
  have HR0 := Lib.hid (Oct.made_row s.size w1)
  have HS0 := Lib.hid (Since.alloc (Since.refl w1) (.cells (madeCells #[.int .u8 0] s.size) 5))
  clear hC h1
  rcases back with _ | _
  ·
    go_wp2_with fail
    obtain ⟨g, hg⟩ : ∃ g, g = w1.heap.size := ⟨_, rfl⟩
    rw [← hg] at HR0 ⊢
    have HG : Hid (w1.heap.size ≤ g) := Lib.hid (by omega)
    clear hg hmk
    go_loopw [12] (fun i wr => ∃ (a k : Nat), i = .int .i64 (a : Int) ∧ Hid (a = 16 * k) ∧ a ≤ s.size ∧ Hid (wr.rowIs g 5 s.size (Oct.rowF (manyL (encK key) s.data.toList k))) ∧ Hid (Since w1 wr)) (fun i _ => s.size - (intOf i).toNat)
    case atStart => exact ⟨0, 0, rfl, Lib.hid rfl, Nat.zero_le _, HR0, HS0⟩
    case round =>
      clear HR0 HS0
      obtain ⟨a, k, rfl, HA, ha, HR, HS⟩ := hrel
      by_cases hlt : a < s.size
      · have hd : decide ((a : Int) < (s.size : Int)) = true := decide_eq_true (by omega)
        have hak : a + 16 ≤ s.size := by have := HA.out; have := HM.out; omega
        have hp := pc_16 s k (by have := HA.out; omega)
        obtain ⟨P, hP⟩ : ∃ P, P = Oct.pc s.data.toList 16 k := ⟨_, rfl⟩
        rw [← hP] at hp
        obtain ⟨Y, hY⟩ : ∃ Y, Y = encK key P := ⟨_, rfl⟩
        have hYs : Y.size = 16 := by rw [hY]; exact encK_size key P
        have c0 : Ret 52 #[.string s, .int .i64 (a : Int), .int .i64 16] (.string P) := fun w => by
          have h := Oct.cut_yes s a 16 w (by omega) (by decide) hlt (by decide)
          rw [HA.out] at h
          rw [hP, HA.out]; exact h
        have c2 := cenc_yes c key P hp Y hY wr (HC.out.since HS.out)
        have hrw : manyL (encK key) s.data.toList (k + 1) = manyL (encK key) s.data.toList k ++ Y.data.toList := by rw [manyL_succ, hY, hP]
        have hll : (manyL (encK key) s.data.toList k).length = a := by rw [manyL_len _ (encK_size key), HA.out]
        have i1 : (0 : Int) ≤ (a : Int) := by omega
        have i2 : (a : Int) ≤ (s.size : Int) := by omega
        clear hp hP hY
        have H_c2 := Lib.hid c2
        clear c2
        have Hrw := Lib.hid hrw
        clear hrw
        have Hll := Lib.hid hll
        clear hll
        have HYs := Lib.hid hYs
        clear hYs
        go_wp2_with fail
        refine (c0).calls ?_
        go_wp2_with fail
        refine H_c2.out.mono ?_
        rintro e w2 ⟨rfl, h2⟩
        have hR2 := HR.out.of_block (h2.block g HR.out.lt)
        have hS2 := Since.step HS.out h2
        obtain ⟨w3, hrun, hrow, hbel⟩ := run_copy_str w2 Y g 5 a s.size (s.size - a) (s.size - a) 3 _ (some ⟨g, a, none⟩) hR2 (fun _ => rfl) (by have := HYs.out; omega) (by have := HYs.out; omega)
        have HR3 : Hid (w3.rowIs g 5 s.size (Oct.rowF (manyL (encK key) s.data.toList (k + 1)))) := Lib.hid (hrow.congr fun j _ => by
          have h9 := Oct.rowF_put (manyL (encK key) s.data.toList k) Y.data.toList j
          rw [Hll.out, ← Hrw.out] at h9
          exact h9)
        have HS3 : Hid (Since w1 w3) := Lib.hid (hbel _ _ hS2 HG.out)
        clear h2 hR2 hS2 hrow hbel
        have Hrun := Lib.hid hrun
        clear hrun
        go_wp2_with ((with_reducible refine Lib.wpList_copy_run (P := Try.prog) _ (o := ⟨some 56, _, _, _, _, _⟩) ?_ (.tmp 54) (.tmp 55) 46 9 ?_ _ _ ?_ ?_ Hrun.out ?_) <;> try rfl)
        go_roundw
        case rel => exact ⟨a + 16, k + 1, by go_num, Lib.hid (by have := HA.out; omega), hak, HR3, HS3⟩
        case measure => simp [intOf]; omega
      · have hd : decide ((a : Int) < (s.size : Int)) = false := decide_eq_false (by omega)
        have hcv := Oct.row_str wr g s.size s.size _ HR.out (by rw [manyL_len _ (encK_size key)]; have := HA.out; omega)
        have e : bs (manyL (encK key) s.data.toList k) = X := by
          rw [HX.out, manyK, show s.size / 16 = k from by have := HA.out; omega]; rfl
        rw [e] at hcv
        go_wp2_with fail
        go_ret2
        exact ⟨rfl, Since.step H1.out HS.out⟩
  ·
    go_wp2_with fail
    obtain ⟨g, hg⟩ : ∃ g, g = w1.heap.size := ⟨_, rfl⟩
    rw [← hg] at HR0 ⊢
    have HG : Hid (w1.heap.size ≤ g) := Lib.hid (by omega)
    clear hg hmk
    go_loopw [12] (fun i wr => ∃ (a k : Nat), i = .int .i64 (a : Int) ∧ Hid (a = 16 * k) ∧ a ≤ s.size ∧ Hid (wr.rowIs g 5 s.size (Oct.rowF (manyL (decK key) s.data.toList k))) ∧ Hid (Since w1 wr)) (fun i _ => s.size - (intOf i).toNat)
    case atStart => exact ⟨0, 0, rfl, Lib.hid rfl, Nat.zero_le _, HR0, HS0⟩
    case round =>
      clear HR0 HS0
      obtain ⟨a, k, rfl, HA, ha, HR, HS⟩ := hrel
      by_cases hlt : a < s.size
      · have hd : decide ((a : Int) < (s.size : Int)) = true := decide_eq_true (by omega)
        have hak : a + 16 ≤ s.size := by have := HA.out; have := HM.out; omega
        have hp := pc_16 s k (by have := HA.out; omega)
        obtain ⟨P, hP⟩ : ∃ P, P = Oct.pc s.data.toList 16 k := ⟨_, rfl⟩
        rw [← hP] at hp
        obtain ⟨Y, hY⟩ : ∃ Y, Y = decK key P := ⟨_, rfl⟩
        have hYs : Y.size = 16 := by rw [hY]; exact decK_size key P
        have c0 : Ret 52 #[.string s, .int .i64 (a : Int), .int .i64 16] (.string P) := fun w => by
          have h := Oct.cut_yes s a 16 w (by omega) (by decide) hlt (by decide)
          rw [HA.out] at h
          rw [hP, HA.out]; exact h
        have c2 := cdec_yes c key P hp Y hY wr (HC.out.since HS.out)
        have hrw : manyL (decK key) s.data.toList (k + 1) = manyL (decK key) s.data.toList k ++ Y.data.toList := by rw [manyL_succ, hY, hP]
        have hll : (manyL (decK key) s.data.toList k).length = a := by rw [manyL_len _ (decK_size key), HA.out]
        have i1 : (0 : Int) ≤ (a : Int) := by omega
        have i2 : (a : Int) ≤ (s.size : Int) := by omega
        clear hp hP hY
        have H_c2 := Lib.hid c2
        clear c2
        have Hrw := Lib.hid hrw
        clear hrw
        have Hll := Lib.hid hll
        clear hll
        have HYs := Lib.hid hYs
        clear hYs
        go_wp2_with fail
        refine (c0).calls ?_
        go_wp2_with fail
        refine H_c2.out.mono ?_
        rintro e w2 ⟨rfl, h2⟩
        have hR2 := HR.out.of_block (h2.block g HR.out.lt)
        have hS2 := Since.step HS.out h2
        obtain ⟨w3, hrun, hrow, hbel⟩ := run_copy_str w2 Y g 5 a s.size (s.size - a) (s.size - a) 3 _ (some ⟨g, a, none⟩) hR2 (fun _ => rfl) (by have := HYs.out; omega) (by have := HYs.out; omega)
        have HR3 : Hid (w3.rowIs g 5 s.size (Oct.rowF (manyL (decK key) s.data.toList (k + 1)))) := Lib.hid (hrow.congr fun j _ => by
          have h9 := Oct.rowF_put (manyL (decK key) s.data.toList k) Y.data.toList j
          rw [Hll.out, ← Hrw.out] at h9
          exact h9)
        have HS3 : Hid (Since w1 w3) := Lib.hid (hbel _ _ hS2 HG.out)
        clear h2 hR2 hS2 hrow hbel
        have Hrun := Lib.hid hrun
        clear hrun
        go_wp2_with ((with_reducible refine Lib.wpList_copy_run (P := Try.prog) _ (o := ⟨some 56, _, _, _, _, _⟩) ?_ (.tmp 54) (.tmp 55) 46 9 ?_ _ _ ?_ ?_ Hrun.out ?_) <;> try rfl)
        go_roundw
        case rel => exact ⟨a + 16, k + 1, by go_num, Lib.hid (by have := HA.out; omega), hak, HR3, HS3⟩
        case measure => simp [intOf]; omega
      · have hd : decide ((a : Int) < (s.size : Int)) = false := decide_eq_false (by omega)
        have hcv := Oct.row_str wr g s.size s.size _ HR.out (by rw [manyL_len _ (decK_size key)]; have := HA.out; omega)
        have e : bs (manyL (decK key) s.data.toList k) = X := by
          rw [HX.out, manyK, show s.size / 16 = k from by have := HA.out; omega]; rfl
        rw [e] at hcv
        go_wp2_with fail
        go_ret2
        exact ⟨rfl, Since.step H1.out HS.out⟩
end Aes
end Go.Proofs.Ytijpmfnomdngpaa

/- What the law calls awake, for layer 9. -/
namespace Go.Proofs.Ytijpmfnomdngpaa
open Go.RowKit
namespace Aes
def fipsK : ByteArray := ⟨#[0, 1, 2, 3, 4, 5, 6, 7, 8, 9, 10, 11, 12, 13, 14, 15]⟩
def fipsP : ByteArray := ⟨#[0, 17, 34, 51, 68, 85, 102, 119, 136, 153, 170, 187, 204, 221, 238, 255]⟩
def fipsC : ByteArray := ⟨#[105, 196, 224, 216, 106, 123, 4, 48, 216, 205, 183, 128, 112, 180, 197, 90]⟩
theorem fips : encK fipsK fipsP = fipsC := by
  apply ba_ext
  decide +kernel
set_option maxHeartbeats 1000000 in
theorem awake_mak : Mak 13 #[] (.bool true) := by
  intro w
  have H0 := Lib.hid (Since.refl w)
  have c1 := encrypt_yes fipsK fipsP (Or.inl rfl) rfl fipsC fips.symm
  unfold fipsK fipsP fipsC at c1
  go_enter Try.func13, Try.ntmps13
  go_wp2_with fail
  refine c1.calls H0.out ?_
  intro w1 h1
  have H1 := Lib.hid h1
  clear h1
  go_wp2_with fail
  go_ret
  exact ⟨rfl, H1.out⟩
end Aes
end Go.Proofs.Ytijpmfnomdngpaa

/- Package cbc: chains of blocks. -/
namespace Go.Proofs.Ytijpmfnomdngpaa
open Go.RowKit
namespace Cbc
open Rnd Aes RefAes

/-- the block ahead of block k, of a chain -/
def prevE (f : ByteArray → ByteArray) (iv : ByteArray) (l : List UInt8) : Nat → ByteArray
  | 0 => iv
  | k + 1 => f (Sched.xorS (Oct.pc l 16 k) (prevE f iv l k))
def chainE (f : ByteArray → ByteArray) (iv : ByteArray) (l : List UInt8) : Nat → List UInt8
  | 0 => []
  | k + 1 => chainE f iv l k ++ (prevE f iv l (k + 1)).data.toList
def prevD (iv : ByteArray) (l : List UInt8) : Nat → ByteArray
  | 0 => iv
  | k + 1 => Oct.pc l 16 k
def chainD (f : ByteArray → ByteArray) (iv : ByteArray) (l : List UInt8) : Nat → List UInt8
  | 0 => []
  | k + 1 => chainD f iv l k ++ (Sched.xorS (f (Oct.pc l 16 k)) (prevD iv l k)).data.toList
theorem prevE_size (f : ByteArray → ByteArray) (hf : ∀ b, (f b).size = 16) (iv : ByteArray) (hiv : iv.size = 16) (l : List UInt8) (k : Nat) : (prevE f iv l k).size = 16 := by
  cases k with
  | zero => exact hiv
  | succ k => exact hf _
theorem chainE_len (f : ByteArray → ByteArray) (hf : ∀ b, (f b).size = 16) (iv : ByteArray) (l : List UInt8) (k : Nat) : (chainE f iv l k).length = 16 * k := by
  induction k with
  | zero => rfl
  | succ k ih =>
    rw [chainE, List.length_append, ih]
    have : (prevE f iv l (k + 1)).data.toList.length = 16 := hf _
    omega
theorem pc_size (l : List UInt8) (k : Nat) (h : 16 * k + 16 ≤ l.length) : (Oct.pc l 16 k).size = 16 := by
  unfold Oct.pc
  rw [size_bs, List.length_take, List.length_drop]; omega
theorem prevD_size (iv : ByteArray) (hiv : iv.size = 16) (l : List UInt8) (k : Nat) (h : 16 * k ≤ l.length) : (prevD iv l k).size = 16 := by
  cases k with
  | zero => exact hiv
  | succ k => exact pc_size l k (by omega)
theorem chainD_len (f : ByteArray → ByteArray) (hf : ∀ b, (f b).size = 16) (iv : ByteArray) (hiv : iv.size = 16) (l : List UInt8) (k : Nat) (h : 16 * k ≤ l.length) : (chainD f iv l k).length = 16 * k := by
  induction k with
  | zero => rfl
  | succ k ih =>
    rw [chainD, List.length_append, ih (by omega)]
    have h1 : (Sched.xorS (f (Oct.pc l 16 k)) (prevD iv l k)).data.toList.length = 16 := by
      show (Sched.xorS (f (Oct.pc l 16 k)) (prevD iv l k)).size = 16
      rw [Sched.xorS_size, hf, prevD_size iv hiv l k (by omega)]; rfl
    omega
def encC (key iv s : ByteArray) : ByteArray := bs (chainE (encK key) iv s.data.toList (s.size / 16))
def decC (key iv s : ByteArray) : ByteArray := bs (chainD (decK key) iv s.data.toList (s.size / 16))
theorem xor16_size (a b : ByteArray) (ha : a.size = 16) (hb : b.size = 16) : (Sched.xorS a b).size = 16 := by rw [Sched.xorS_size, ha, hb]; rfl

theorem begin_nokey (key iv s : ByteArray) (hm : key.size ≤ 1000000) (hk : ¬ keyOk key) : Ret 60 #[.string key, .string iv, .string s] (.tuple #[.pointer none, .int .i64 2]) := by
  intro w
  have c1 := new_no key hm hk
  clear hk
  go_enter Try.func60, Try.ntmps60
  go_wp2_with fail
  refine (c1).calls ?_
  go_wp2_with fail
  go_ret2
  exact ⟨rfl, rfl⟩
theorem begin_noiv (key iv s : ByteArray) (hk : keyOk key) (hi : iv.size ≠ 16) : Mak 60 #[.string key, .string iv, .string s] (.tuple #[.pointer none, .int .i64 1]) := by
  intro w
  have H0 := Lib.hid (Since.refl w)
  have c1 := new_key key hk
  have t1 := (show ((iv.size : Int) == 16) = false by rw [beq_eq_false_iff_ne]; omega)
  have t2 := (show ((iv.size : Int) != 16) = true by rw [bne_iff_ne]; omega)
  clear hk hi
  go_enter Try.func60, Try.ntmps60
  go_wp2_with fail
  refine c1 _ _ H0.out _ ?_
  intro c w1 hC _ h1
  have H1 := Lib.hid h1
  clear hC h1
  go_wp2_with fail
  go_ret2
  exact ⟨rfl, H1.out⟩
theorem begin_nosize (key iv s : ByteArray) (hk : keyOk key) (hi : iv.size = 16) (hs : s.size % 16 ≠ 0) : Mak 60 #[.string key, .string iv, .string s] (.tuple #[.pointer none, .int .i64 4]) := by
  intro w
  have H0 := Lib.hid (Since.refl w)
  have c1 := new_key key hk
  have t1 : ((iv.size : Int) == 16) = true := by rw [beq_iff_eq]; omega
  have t2 : ((iv.size : Int) != 16) = false := by rw [bne_eq_false_iff_eq]; omega
  have t3 : ((s.size : Int) % 16 == 0) = false := by rw [beq_eq_false_iff_ne]; omega
  have t4 : ((s.size : Int) % 16 != 0) = true := by rw [bne_iff_ne]; omega
  clear hk hi hs
  go_enter Try.func60, Try.ntmps60
  go_wp2_with fail
  refine c1 _ _ H0.out _ ?_
  intro c w1 hC _ h1
  have H1 := Lib.hid h1
  clear hC h1
  go_wp2_with fail
  go_ret2
  exact ⟨rfl, H1.out⟩
theorem begin_yes (key iv s : ByteArray) (hk : keyOk key) (hi : iv.size = 16) (hs : s.size % 16 = 0) : MakK 60 #[.string key, .string iv, .string s] key := by
  intro W0 w hs0 R kR
  have H0 := Lib.hid hs0
  have KR := Lib.hid kR
  have HS := Lib.hid (Since.refl w)
  refine Calls.mono (R := fun e w' => ∃ c : Nat, e = .returned (.tuple #[.pointer (some ⟨c, 0, none⟩), .int .i64 0]) ∧ CipK w' c key ∧ Since w w') ?_ fun e w' ⟨c, he, hc, h⟩ => by subst he; exact KR.out c w' hc h (H0.out.step h)
  have c1 := new_key key hk
  have t1 : ((iv.size : Int) == 16) = true := by rw [beq_iff_eq]; omega
  have t2 : ((iv.size : Int) != 16) = false := by rw [bne_eq_false_iff_eq]; omega
  have t3 : ((s.size : Int) % 16 == 0) = true := by rw [beq_iff_eq]; omega
  have t4 : ((s.size : Int) % 16 != 0) = false := by rw [bne_eq_false_iff_eq]; omega
  clear hk hi hs hs0 kR
  go_enter Try.func60, Try.ntmps60
  go_wp2_with fail
  refine c1 _ _ HS.out _ ?_
  intro c w1 hC _ h1
  have H1 := Lib.hid h1
  have HC := Lib.hid hC
  clear hC h1
  go_wp2_with fail
  go_ret2
  exact ⟨c, rfl, HC.out, H1.out⟩
theorem enc_nokey (key iv s : ByteArray) (hm : key.size ≤ 1000000) (hk : ¬ keyOk key) : Mak 26 #[.string key, .string iv, .string s] (.tuple #[.string ⟨#[]⟩, .int .i64 2]) := by
  intro w
  have H0 := Lib.hid (Since.refl w)
  have c1 : Mak 60 #[.string key, .string iv, .string s] (.tuple #[.pointer none, .int .i64 2]) := (begin_nokey key iv s hm hk).mak
  clear hk
  go_enter Try.func26, Try.ntmps26
  go_wp2_with fail
  refine c1.calls H0.out ?_
  intro w1 h1
  have H1 := Lib.hid h1
  clear h1
  go_wp2_with fail
  go_ret2
  exact ⟨rfl, H1.out⟩
theorem enc_noiv (key iv s : ByteArray) (hk : keyOk key) (hi : iv.size ≠ 16) : Mak 26 #[.string key, .string iv, .string s] (.tuple #[.string ⟨#[]⟩, .int .i64 1]) := by
  intro w
  have H0 := Lib.hid (Since.refl w)
  have c1 : Mak 60 #[.string key, .string iv, .string s] (.tuple #[.pointer none, .int .i64 1]) := begin_noiv key iv s hk hi
  clear hk
  go_enter Try.func26, Try.ntmps26
  go_wp2_with fail
  refine c1.calls H0.out ?_
  intro w1 h1
  have H1 := Lib.hid h1
  clear h1
  go_wp2_with fail
  go_ret2
  exact ⟨rfl, H1.out⟩
theorem enc_nosize (key iv s : ByteArray) (hk : keyOk key) (hi : iv.size = 16) (hs : s.size % 16 ≠ 0) : Mak 26 #[.string key, .string iv, .string s] (.tuple #[.string ⟨#[]⟩, .int .i64 4]) := by
  intro w
  have H0 := Lib.hid (Since.refl w)
  have c1 : Mak 60 #[.string key, .string iv, .string s] (.tuple #[.pointer none, .int .i64 4]) := begin_nosize key iv s hk hi hs
  clear hk
  go_enter Try.func26, Try.ntmps26
  go_wp2_with fail
  refine c1.calls H0.out ?_
  intro w1 h1
  have H1 := Lib.hid h1
  clear h1
  go_wp2_with fail
  go_ret2
  exact ⟨rfl, H1.out⟩
theorem dec_nokey (key iv s : ByteArray) (hm : key.size ≤ 1000000) (hk : ¬ keyOk key) : Mak 28 #[.string key, .string iv, .string s] (.tuple #[.string ⟨#[]⟩, .int .i64 2]) := by
  intro w
  have H0 := Lib.hid (Since.refl w)
  have c1 : Mak 60 #[.string key, .string iv, .string s] (.tuple #[.pointer none, .int .i64 2]) := (begin_nokey key iv s hm hk).mak
  clear hk
  go_enter Try.func28, Try.ntmps28
  go_wp2_with fail
  refine c1.calls H0.out ?_
  intro w1 h1
  have H1 := Lib.hid h1
  clear h1
  go_wp2_with fail
  go_ret2
  exact ⟨rfl, H1.out⟩
theorem dec_noiv (key iv s : ByteArray) (hk : keyOk key) (hi : iv.size ≠ 16) : Mak 28 #[.string key, .string iv, .string s] (.tuple #[.string ⟨#[]⟩, .int .i64 1]) := by
  intro w
  have H0 := Lib.hid (Since.refl w)
  have c1 : Mak 60 #[.string key, .string iv, .string s] (.tuple #[.pointer none, .int .i64 1]) := begin_noiv key iv s hk hi
  clear hk
  go_enter Try.func28, Try.ntmps28
  go_wp2_with fail
  refine c1.calls H0.out ?_
  intro w1 h1
  have H1 := Lib.hid h1
  clear h1
  go_wp2_with fail
  go_ret2
  exact ⟨rfl, H1.out⟩
theorem dec_nosize (key iv s : ByteArray) (hk : keyOk key) (hi : iv.size = 16) (hs : s.size % 16 ≠ 0) : Mak 28 #[.string key, .string iv, .string s] (.tuple #[.string ⟨#[]⟩, .int .i64 4]) := by
  intro w
  have H0 := Lib.hid (Since.refl w)
  have c1 : Mak 60 #[.string key, .string iv, .string s] (.tuple #[.pointer none, .int .i64 4]) := begin_nosize key iv s hk hi hs
  clear hk
  go_enter Try.func28, Try.ntmps28
  go_wp2_with fail
  refine c1.calls H0.out ?_
  intro w1 h1
  have H1 := Lib.hid h1
  clear h1
  go_wp2_with fail
  go_ret2
  exact ⟨rfl, H1.out⟩
set_option maxHeartbeats 2000000 in
theorem enc_yes (key iv s : ByteArray) (hk : keyOk key) (hi : iv.size = 16) (hs : s.size % 16 = 0) (hm : s.size ≤ 1000000) (X : ByteArray) (hX : X = encC key iv s) : Mak 26 #[.string key, .string iv, .string s] (.tuple #[.string X, .int .i64 0]) := by
  intro w
  have c1 := begin_yes key iv s hk hi hs
  have H0 := Lib.hid (Since.refl w)
  have hmk := Oct.make_row s.size (by omega)
  have HX := Lib.hid hX
  have HM := Lib.hid hs
  have HI := Lib.hid hi
  clear hk hX hs hi
  go_enter Try.func26, Try.ntmps26
  go_wp2_with fail
  refine c1 _ _ H0.out _ ?_
  intro c w1 hC _ h1
  have HC := Lib.hid hC
  have H1 := Lib.hid h1
  have HR0 := Lib.hid (Oct.made_row s.size w1)
  have HS0 := Lib.hid (Since.alloc (Since.refl w1) (.cells (madeCells #[.int .u8 0] s.size) 5))
  clear hC h1
  go_wp2_with fail
  obtain ⟨g, hg⟩ : ∃ g, g = w1.heap.size := ⟨_, rfl⟩
  rw [← hg] at HR0 ⊢
  have HG : Hid (w1.heap.size ≤ g) := Lib.hid (by omega)
  clear hg hmk
  go_loopw [11, 12] (fun p i wr => ∃ (a k : Nat) (V : ByteArray), i = .int .i64 (a : Int) ∧ p = .string V ∧ Hid (a = 16 * k) ∧ a ≤ s.size ∧ Hid (V = prevE (encK key) iv s.data.toList k) ∧ Hid (wr.rowIs g 5 s.size (Oct.rowF (chainE (encK key) iv s.data.toList k))) ∧ Hid (Since w1 wr)) (fun _ i _ => s.size - (intOf i).toNat)
  case atStart => exact ⟨0, 0, iv, rfl, rfl, Lib.hid rfl, Nat.zero_le _, Lib.hid rfl, HR0, HS0⟩
  case round =>
    clear HR0 HS0
    obtain ⟨a, k, V, rfl, rfl, HA, ha, HV, HR, HS⟩ := hrel
    by_cases hlt : a < s.size
    · have hd : decide ((a : Int) < (s.size : Int)) = true := decide_eq_true (by omega)
      have hak : a + 16 ≤ s.size := by have := HA.out; have := HM.out; omega
      have hp := pc_16 s k (by have := HA.out; omega)
      obtain ⟨P, hP⟩ : ∃ P, P = Oct.pc s.data.toList 16 k := ⟨_, rfl⟩
      rw [← hP] at hp
      have hVs : V.size = 16 := by rw [HV.out]; exact prevE_size _ (encK_size key) _ HI.out _ _
      obtain ⟨Z, hZ⟩ : ∃ Z, Z = Sched.xorS P V := ⟨_, rfl⟩
      have hZs : Z.size = 16 := by rw [hZ]; exact xor16_size _ _ hp hVs
      obtain ⟨Y, hY⟩ : ∃ Y, Y = encK key Z := ⟨_, rfl⟩
      have hYs : Y.size = 16 := by rw [hY]; exact encK_size key Z
      have hYp : Y = prevE (encK key) iv s.data.toList (k + 1) := by rw [hY, hZ, hP, HV.out]; rfl
      have c0 : Ret 52 #[.string s, .int .i64 (a : Int), .int .i64 16] (.string P) := fun w => by
        have h := Oct.cut_yes s a 16 w (by omega) (by decide) hlt (by decide)
        rw [HA.out] at h
        rw [hP, HA.out]; exact h
      have c3 := Sched.xor_m P V (by omega) (by omega) Z hZ
      have c2 := fun w' (h : Since w1 w') => cenc_yes c key Z hZs Y hY w' (HC.out.since h)
      have hrw : chainE (encK key) iv s.data.toList (k + 1) = chainE (encK key) iv s.data.toList k ++ Y.data.toList := by rw [chainE, hYp]
      have hll : (chainE (encK key) iv s.data.toList k).length = a := by rw [chainE_len _ (encK_size key), HA.out]
      have i1 : (0 : Int) ≤ (a : Int) := by omega
      have i2 : (a : Int) ≤ (s.size : Int) := by omega
      clear hp hP hY hVs hZ hZs
      have H_c2 := Lib.hid c2
      clear c2
      have Hrw := Lib.hid hrw
      clear hrw
      have Hll := Lib.hid hll
      clear hll
      have HYs := Lib.hid hYs
      clear hYs
      have HYp := Lib.hid hYp
      clear hYp
      go_wp2_with fail
      have HF := Lib.hid (Since.refl wr)
      refine (c0).calls ?_
      go_wp2_with fail
      refine c3.calls HF.out ?_
      intro w2 h2
      have H2 := Lib.hid h2
      clear h2
      go_wp2_with fail
      refine (H_c2.out _ (Since.step HS.out H2.out)).mono ?_
      rintro e w3 ⟨rfl, h3⟩
      have hS3 := Since.step H2.out h3
      have hR3 := HR.out.of_block (hS3.below.block g HR.out.lt)
      have hS3' := Since.step HS.out hS3
      obtain ⟨w4, hrun, hrow, hbel⟩ := run_copy_str w3 Y g 5 a s.size (s.size - a) (s.size - a) 3 _ (some ⟨g, a, none⟩) hR3 (fun _ => rfl) (by have := HYs.out; omega) (by have := HYs.out; omega)
      have HR4 : Hid (w4.rowIs g 5 s.size (Oct.rowF (chainE (encK key) iv s.data.toList (k + 1)))) := Lib.hid (hrow.congr fun j _ => by
        have h9 := Oct.rowF_put (chainE (encK key) iv s.data.toList k) Y.data.toList j
        rw [Hll.out, ← Hrw.out] at h9
        exact h9)
      have HS4 : Hid (Since w1 w4) := Lib.hid (hbel _ _ hS3' HG.out)
      clear h3 hR3 hS3 hS3' hrow hbel
      have Hrun := Lib.hid hrun
      clear hrun
      go_wp2_with ((with_reducible refine Lib.wpList_copy_run (P := Try.prog) _ (o := ⟨some 50, _, _, _, _, _⟩) ?_ (.tmp 48) (.tmp 49) 46 9 ?_ _ _ ?_ ?_ Hrun.out ?_) <;> try rfl)
      go_roundw
      case rel => exact ⟨a + 16, k + 1, Y, by go_num, rfl, Lib.hid (by have := HA.out; omega), hak, HYp, HR4, HS4⟩
      case measure => simp [intOf]; omega
    · have hd : decide ((a : Int) < (s.size : Int)) = false := decide_eq_false (by omega)
      have hcv := Oct.row_str wr g s.size s.size _ HR.out (by rw [chainE_len _ (encK_size key)]; have := HA.out; omega)
      have e : bs (chainE (encK key) iv s.data.toList k) = X := by
        rw [HX.out, encC, show s.size / 16 = k from by have := HA.out; omega]
      rw [e] at hcv
      go_wp2_with fail
      go_ret2
      exact ⟨rfl, Since.step H1.out HS.out⟩
set_option maxHeartbeats 2000000 in
theorem dec_yes (key iv s : ByteArray) (hk : keyOk key) (hi : iv.size = 16) (hs : s.size % 16 = 0) (hm : s.size ≤ 1000000) (X : ByteArray) (hX : X = decC key iv s) : Mak 28 #[.string key, .string iv, .string s] (.tuple #[.string X, .int .i64 0]) := by
  intro w
  have c1 := begin_yes key iv s hk hi hs
  have H0 := Lib.hid (Since.refl w)
  have hmk := Oct.make_row s.size (by omega)
  have HX := Lib.hid hX
  have HM := Lib.hid hs
  have HI := Lib.hid hi
  clear hk hX hs hi
  go_enter Try.func28, Try.ntmps28
  go_wp2_with fail
  refine c1 _ _ H0.out _ ?_
  intro c w1 hC _ h1
  have HC := Lib.hid hC
  have H1 := Lib.hid h1
  have HR0 := Lib.hid (Oct.made_row s.size w1)
  have HS0 := Lib.hid (Since.alloc (Since.refl w1) (.cells (madeCells #[.int .u8 0] s.size) 5))
  clear hC h1
  go_wp2_with fail
  obtain ⟨g, hg⟩ : ∃ g, g = w1.heap.size := ⟨_, rfl⟩
  rw [← hg] at HR0 ⊢
  have HG : Hid (w1.heap.size ≤ g) := Lib.hid (by omega)
  clear hg hmk
  go_loopw [11, 12] (fun p i wr => ∃ (a k : Nat) (V : ByteArray), i = .int .i64 (a : Int) ∧ p = .string V ∧ Hid (a = 16 * k) ∧ a ≤ s.size ∧ Hid (V = prevD iv s.data.toList k) ∧ Hid (wr.rowIs g 5 s.size (Oct.rowF (chainD (decK key) iv s.data.toList k))) ∧ Hid (Since w1 wr)) (fun _ i _ => s.size - (intOf i).toNat)
  case atStart => exact ⟨0, 0, iv, rfl, rfl, Lib.hid rfl, Nat.zero_le _, Lib.hid rfl, HR0, HS0⟩
  case round =>
    clear HR0 HS0
    obtain ⟨a, k, V, rfl, rfl, HA, ha, HV, HR, HS⟩ := hrel
    have hsl : s.data.toList.length = s.size := rfl
    have hll : (chainD (decK key) iv s.data.toList k).length = a := by
      rw [chainD_len _ (decK_size key) iv HI.out _ _ (by have := HA.out; omega), HA.out]
    by_cases hlt : a < s.size
    · have hd : decide ((a : Int) < (s.size : Int)) = true := decide_eq_true (by omega)
      have hak : a + 16 ≤ s.size := by have := HA.out; have := HM.out; omega
      have hp := pc_16 s k (by have := HA.out; omega)
      obtain ⟨P, hP⟩ : ∃ P, P = Oct.pc s.data.toList 16 k := ⟨_, rfl⟩
      rw [← hP] at hp
      have hVs : V.size = 16 := by rw [HV.out]; exact prevD_size _ HI.out _ _ (by have := HA.out; omega)
      obtain ⟨Z, hZ⟩ : ∃ Z, Z = decK key P := ⟨_, rfl⟩
      have hZs : Z.size = 16 := by rw [hZ]; exact decK_size key P
      obtain ⟨Y, hY⟩ : ∃ Y, Y = Sched.xorS Z V := ⟨_, rfl⟩
      have hYs : Y.size = 16 := by rw [hY]; exact xor16_size _ _ hZs hVs
      have hPp : P = prevD iv s.data.toList (k + 1) := hP
      have c0 : Ret 52 #[.string s, .int .i64 (a : Int), .int .i64 16] (.string P) := fun w => by
        have h := Oct.cut_yes s a 16 w (by omega) (by decide) hlt (by decide)
        rw [HA.out] at h
        rw [hP, HA.out]; exact h
      have c3 := Sched.xor_m Z V (by omega) (by omega) Y hY
      have c2 := fun w' (h : Since w1 w') => cdec_yes c key P hp Z hZ w' (HC.out.since h)
      have hrw : chainD (decK key) iv s.data.toList (k + 1) = chainD (decK key) iv s.data.toList k ++ Y.data.toList := by rw [chainD, hY, hZ, hP, HV.out]
      have i1 : (0 : Int) ≤ (a : Int) := by omega
      have hne : ¬ s.size = a := by omega
      have i2 : (a : Int) ≤ (s.size : Int) := by omega
      clear hp hP hY hVs hZ hZs hsl
      have H_c2 := Lib.hid c2
      clear c2
      have Hrw := Lib.hid hrw
      clear hrw
      have Hll := Lib.hid hll
      clear hll
      have HYs := Lib.hid hYs
      clear hYs
      have HPp := Lib.hid hPp
      clear hPp
      have HF := Lib.hid (Since.refl wr)
      go_wp2_with fail
      refine (c0).calls ?_
      go_wp2_with fail
      refine (H_c2.out _ HS.out).mono ?_
      rintro e w2 ⟨rfl, h2⟩
      have H2 := Lib.hid h2
      clear h2
      go_wp2_with fail
      go_region_law (first
        | (go_simp; go_at_call 61; refine (c3 _).mono ?_; rintro e w3 ⟨rfl, h3⟩; have hS3 := Since.step (Since.drew H2.out) h3; have hR3 := HR.out.of_block (hS3.below.block g HR.out.lt); have hS3' := Since.step HS.out hS3; obtain ⟨w4, hrun, hrow, hbel⟩ := run_copy_str w3 Y g 5 a s.size (s.size - a) (s.size - a) 3 _ (some ⟨g, a, none⟩) hR3 (fun _ => rfl) (by have := HYs.out; omega) (by have := HYs.out; omega)))
      all_goals
        have HR4 : Hid (w4.rowIs g 5 s.size (Oct.rowF (chainD (decK key) iv s.data.toList (k + 1)))) := Lib.hid (hrow.congr fun j _ => by
          have h9 := Oct.rowF_put (chainD (decK key) iv s.data.toList k) Y.data.toList j
          rw [Hll.out, ← Hrw.out] at h9
          exact h9)
        have HS4 : Hid (Since w1 w4) := Lib.hid (hbel _ _ hS3' HG.out)
        clear h3 hR3 hS3 hS3' hrow hbel hrun
        go_wp2_with fail
        go_roundw
        case rel => exact ⟨a + 16, k + 1, P, by go_num, rfl, Lib.hid (by have := HA.out; omega), hak, HPp, HR4, HS4⟩
        case measure => simp [intOf]; omega
    · have hd : decide ((a : Int) < (s.size : Int)) = false := decide_eq_false (by omega)
      have hcv := Oct.row_str wr g s.size s.size _ HR.out (by rw [hll]; omega)
      have e : bs (chainD (decK key) iv s.data.toList k) = X := by
        rw [HX.out, decC, show s.size / 16 = k from by have := HA.out; omega]
      rw [e] at hcv
      clear hsl hll
      go_wp2_with fail
      go_ret2
      exact ⟨rfl, Since.step H1.out HS.out⟩
theorem last_yes (iv s : ByteArray) (hs : 16 ≤ s.size) (hm : s.size ≤ 140737488355328) (X : ByteArray) (hX : X = s.extract (s.size - 16) s.size) : Ret 30 #[.string iv, .string s] (.string X) := by
  intro w
  have t1 : decide ((s.size : Int) < 16) = false := decide_eq_false (by omega)
  have e : (s.size : Int) - 16 = ((s.size - 16 : Nat) : Int) := by omega
  have i1 : (0 : Int) ≤ (s.size : Int) - 16 := by omega
  have i2 : (s.size : Int) - 16 ≤ (s.size : Int) := by omega
  have HX := Lib.hid hX
  have HE := Lib.hid e
  clear hX e
  go_enter Try.func30, Try.ntmps30
  go_wp2_with fail
  go_ret
  exact ⟨by rw [HX.out, HE.out]; rfl, rfl⟩
theorem last_no (iv s : ByteArray) (hs : s.size < 16) : Ret 30 #[.string iv, .string s] (.string iv) := by
  intro w
  have t1 : decide ((s.size : Int) < 16) = true := decide_eq_true (by omega)
  go_enter Try.func30, Try.ntmps30
  go_wp2_with fail
  go_ret
  exact ⟨rfl, rfl⟩
end Cbc
end Go.Proofs.Ytijpmfnomdngpaa

/- The reference of cbc. -/
namespace Go.Proofs.Ytijpmfnomdngpaa
open Go.RowKit
namespace RefCbc
open Rnd Aes RefAes Cbc

theorem bad_nokey (key iv s : ByteArray) (_hm : key.size ≤ 1000000) (hk : ¬ keyOk key) : Ret 62 #[.string key, .string iv, .string s] (.int .i64 2) := by
  intro w
  unfold keyOk at hk
  have a1 : ((key.size : Int) != 16) = true := by rw [bne_iff_ne]; omega
  have a2 : ((key.size : Int) != 24) = true := by rw [bne_iff_ne]; omega
  have a3 : ((key.size : Int) != 32) = true := by rw [bne_iff_ne]; omega
  have b1 : ((key.size : Int) == 16) = false := by rw [beq_eq_false_iff_ne]; omega
  have b2 : ((key.size : Int) == 24) = false := by rw [beq_eq_false_iff_ne]; omega
  have b3 : ((key.size : Int) == 32) = false := by rw [beq_eq_false_iff_ne]; omega
  clear hk
  go_enter Try.func62, Try.ntmps62
  go_wp2_with fail
  go_ret
  exact ⟨rfl, rfl⟩
theorem bad_key (key iv s : ByteArray) (hk : keyOk key) (e : Int) (he : iv.size ≠ 16 ∧ e = 1 ∨ iv.size = 16 ∧ s.size % 16 ≠ 0 ∧ e = 4 ∨ iv.size = 16 ∧ s.size % 16 = 0 ∧ e = 0) (hm : s.size ≤ 140737488355328) : Ret 62 #[.string key, .string iv, .string s] (.int .i64 e) := by
  intro w
  unfold keyOk at hk
  obtain ⟨t1, ht1⟩ : ∃ t, ((iv.size : Int) == 16) = t := ⟨_, rfl⟩
  obtain ⟨t2, ht2⟩ : ∃ t, ((s.size : Int) % 16 == 0) = t := ⟨_, rfl⟩
  have n1 : ((iv.size : Int) != 16) = !t1 := by rw [← ht1]; rfl
  have n2 : ((s.size : Int) % 16 != 0) = !t2 := by rw [← ht2]; rfl
  have hv : t1 = false ∧ e = 1 ∨ t1 = true ∧ t2 = false ∧ e = 4 ∨ t1 = true ∧ t2 = true ∧ e = 0 := by
    rcases he with ⟨h, h2⟩ | ⟨h, h1, h2⟩ | ⟨h, h1, h2⟩
    · exact Or.inl ⟨by rw [← ht1, beq_eq_false_iff_ne]; omega, h2⟩
    · exact Or.inr (Or.inl ⟨by rw [← ht1, beq_iff_eq]; omega, by rw [← ht2, beq_eq_false_iff_ne]; omega, h2⟩)
    · exact Or.inr (Or.inr ⟨by rw [← ht1, beq_iff_eq]; omega, by rw [← ht2, beq_iff_eq]; omega, h2⟩)
  clear he
  rcases hk with hk | hk | hk
  all_goals
    have hki : (key.size : Int) = _ := congrArg (fun n : Nat => (n : Int)) hk
    clear hk
    rcases hv with ⟨rfl, rfl⟩ | ⟨rfl, rfl, rfl⟩ | ⟨rfl, rfl, rfl⟩
  all_goals
    simp only [Bool.not_true, Bool.not_false] at n1 n2
    go_enter Try.func62, Try.ntmps62
    go_wp2_with fail
    go_ret
    exact ⟨rfl, rfl⟩
theorem enc_bad (key iv s : ByteArray) (e : Int) (hne : (e != 0) = true) (c1 : Ret 62 #[.string key, .string iv, .string s] (.int .i64 e)) : Ret 27 #[.string key, .string iv, .string s] (.tuple #[.string ⟨#[]⟩, .int .i64 e]) := by
  intro w
  have hn2 : (e == 0) = false := by rw [beq_eq_false_iff_ne]; exact bne_iff_ne.1 hne
  go_enter Try.func27, Try.ntmps27
  go_wp2_with fail
  refine (c1).calls ?_
  go_wp2_with fail
  go_ret2
  exact ⟨rfl, rfl⟩
theorem dec_bad (key iv s : ByteArray) (e : Int) (hne : (e != 0) = true) (c1 : Ret 62 #[.string key, .string iv, .string s] (.int .i64 e)) : Ret 29 #[.string key, .string iv, .string s] (.tuple #[.string ⟨#[]⟩, .int .i64 e]) := by
  intro w
  have hn2 : (e == 0) = false := by rw [beq_eq_false_iff_ne]; exact bne_iff_ne.1 hne
  go_enter Try.func29, Try.ntmps29
  go_wp2_with fail
  refine (c1).calls ?_
  go_wp2_with fail
  go_ret2
  exact ⟨rfl, rfl⟩
set_option maxHeartbeats 2000000 in
theorem enc_yes (key iv s : ByteArray) (hk : keyOk key) (hi : iv.size = 16) (hs : s.size % 16 = 0) (hm : s.size ≤ 1000000) (X : ByteArray) (hX : X = encC key iv s) : Mak 27 #[.string key, .string iv, .string s] (.tuple #[.string X, .int .i64 0]) := by
  intro w
  have c1 := bad_key key iv s hk 0 (by omega) (by omega)
  have H0 := Lib.hid (Since.refl w)
  have HX := Lib.hid hX
  have HM := Lib.hid hs
  have HI := Lib.hid hi
  have HK := Lib.hid hk
  clear hk hX hs hi
  go_enter Try.func27, Try.ntmps27
  go_wp2_with fail
  refine (c1).calls ?_
  go_wp2_with fail
  go_loopw [1, 9, 10] (fun p o i wr => ∃ (a k : Nat) (V O : ByteArray), i = .int .i64 (a : Int) ∧ p = .string V ∧ o = .string O ∧ Hid (a = 16 * k) ∧ a ≤ s.size ∧ Hid (V = prevE (encK key) iv s.data.toList k) ∧ Hid (O = bs (chainE (encK key) iv s.data.toList k)) ∧ Hid (Since w wr)) (fun _ _ i _ => s.size - (intOf i).toNat)
  case atStart => exact ⟨0, 0, iv, ⟨#[]⟩, rfl, rfl, rfl, Lib.hid rfl, Nat.zero_le _, Lib.hid rfl, Lib.hid rfl, H0⟩
  case round =>
    obtain ⟨a, k, V, O, rfl, rfl, rfl, HA, ha, HV, HO, HS⟩ := hrel
    have hOs : O.size = a := by rw [HO.out, size_bs, chainE_len _ (encK_size key), HA.out]
    by_cases hlt : a < s.size
    · have hd : decide ((a : Int) < (s.size : Int)) = true := decide_eq_true (by omega)
      have hak : a + 16 ≤ s.size := by have := HA.out; have := HM.out; omega
      have he := pc_ext s a k HA.out
      have hp := pc_16 s k (by have := HA.out; omega)
      obtain ⟨P, hP⟩ : ∃ P, P = s.extract a (a + 16) := ⟨_, rfl⟩
      rw [he] at hP
      rw [← hP] at hp he
      have hVs : V.size = 16 := by rw [HV.out]; exact prevE_size _ (encK_size key) _ HI.out _ _
      obtain ⟨Z, hZ⟩ : ∃ Z, Z = Sched.xorS P V := ⟨_, rfl⟩
      have hZs : Z.size = 16 := by rw [hZ]; exact xor16_size _ _ hp hVs
      obtain ⟨Y, hY⟩ : ∃ Y, Y = encK key Z := ⟨_, rfl⟩
      have hYs : Y.size = 16 := by rw [hY]; exact encK_size key Z
      have hYp : Y = prevE (encK key) iv s.data.toList (k + 1) := by rw [hY, hZ, hP, HV.out]; rfl
      have c3 := RefSched.xor_m P V (by omega) (by omega) Z hZ
      have c2 := RefAes.enc_yes key Z HK.out hZs Y hY
      have hsz : ¬ 9223372036854775807 < O.size + Y.size := by omega
      have hO2 : O ++ Y = bs (chainE (encK key) iv s.data.toList (k + 1)) := by
        apply ba_ext
        rw [app_list, HO.out, list_bs, list_bs, chainE, hYp]
      have i1 : (0 : Int) ≤ (a : Int) := by omega
      have i2 : (a : Int) + 16 ≤ (s.size : Int) := by omega
      clear hOs hp hP hY hVs hZ hZs hYs
      have HO2 := Lib.hid hO2
      have HYp := Lib.hid hYp
      clear hO2 hYp
      go_wp2_with fail
      rw [he]
      refine c3.calls HS.out ?_
      intro w1 h1
      have H1 := Lib.hid h1
      clear h1
      go_wp2_with fail
      refine c2.calls H1.out ?_
      intro w2 h2
      have H2 := Lib.hid h2
      clear h2
      go_wp2_with fail
      go_roundw
      case rel => exact ⟨a + 16, k + 1, Y, _, by go_num, rfl, rfl, Lib.hid (by have := HA.out; omega), hak, HYp, HO2, H2⟩
      case measure => simp [intOf]; omega
    · have hd : decide ((a : Int) < (s.size : Int)) = false := decide_eq_false (by omega)
      have e : O = X := by
        rw [HO.out, HX.out, encC, show s.size / 16 = k from by have := HA.out; omega]
      subst e
      clear hOs
      go_wp2_with fail
      go_ret2
      exact ⟨rfl, HS.out⟩
theorem pc_many (f : ByteArray → ByteArray) (hf : ∀ b, (f b).size = 16) (l : List UInt8) (n k : Nat) (h : k < n) : Oct.pc (manyL f l n) 16 k = f (Oct.pc l 16 k) := by
  induction n with
  | zero => omega
  | succ n ih =>
    have hn := manyL_len f hf l n
    rw [manyL_succ]
    by_cases hk : k < n
    · rw [← ih hk]
      unfold Oct.pc
      rw [List.drop_append_of_le_length (by omega), List.take_append_of_le_length (by rw [List.length_drop]; omega)]
    · obtain rfl : k = n := by omega
      unfold Oct.pc
      rw [List.drop_append, List.drop_eq_nil_of_le (by omega), hn, Nat.sub_self, List.nil_append, List.drop_zero]
      have h9 : (f (Oct.pc l 16 k)).data.toList.length = 16 := hf _
      unfold Oct.pc at h9
      rw [List.take_of_length_le (by omega)]
      exact bs_list _
set_option maxHeartbeats 2000000 in
theorem dec_yes (key iv s : ByteArray) (hk : keyOk key) (hi : iv.size = 16) (hs : s.size % 16 = 0) (hm : s.size ≤ 1000000) (X : ByteArray) (hX : X = decC key iv s) : Mak 29 #[.string key, .string iv, .string s] (.tuple #[.string X, .int .i64 0]) := by
  intro w
  have c1 := bad_key key iv s hk 0 (by omega) (by omega)
  obtain ⟨M, hM⟩ : ∃ M, M = manyK true key s := ⟨_, rfl⟩
  have c4 := RefAes.many_yes key s true hk hs hm M hM
  have hMs : M.size = s.size := by rw [hM, manyK, size_bs, manyL_len _ (both_16 true key)]; omega
  have H0 := Lib.hid (Since.refl w)
  have HX := Lib.hid hX
  have HM := Lib.hid hs
  have HI := Lib.hid hi
  have HMM := Lib.hid hM
  have HMs := Lib.hid hMs
  clear hk hX hs hi hM
  go_enter Try.func29, Try.ntmps29
  go_wp2_with fail
  refine (c1).calls ?_
  go_wp2_with fail
  refine c4.calls H0.out ?_
  intro w1 h1
  have H1 := Lib.hid h1
  clear h1
  go_wp2_with fail
  go_loopw [1, 9, 12] (fun p o i wr => ∃ (a k : Nat) (V O : ByteArray), i = .int .i64 (a : Int) ∧ p = .string V ∧ o = .string O ∧ Hid (a = 16 * k) ∧ a ≤ s.size ∧ Hid (V = prevD iv s.data.toList k) ∧ Hid (O = bs (chainD (decK key) iv s.data.toList k)) ∧ Hid (Since w wr)) (fun _ _ i _ => s.size - (intOf i).toNat)
  case atStart => exact ⟨0, 0, iv, ⟨#[]⟩, rfl, rfl, rfl, Lib.hid rfl, Nat.zero_le _, Lib.hid rfl, Lib.hid rfl, H1⟩
  case round =>
    clear hMs
    obtain ⟨a, k, V, O, rfl, rfl, rfl, HA, ha, HV, HO, HS⟩ := hrel
    have hsl : s.data.toList.length = s.size := rfl
    have hOs : O.size = a := by rw [HO.out, size_bs, chainD_len _ (decK_size key) iv HI.out _ _ (by have := HA.out; omega), HA.out]
    by_cases hlt : a < s.size
    · have hd : decide ((a : Int) < (s.size : Int)) = true := decide_eq_true (by omega)
      have hak : a + 16 ≤ s.size := by have := HA.out; have := HM.out; omega
      have he := pc_ext s a k HA.out
      have hp := pc_16 s k (by have := HA.out; omega)
      have he2 := pc_ext M a k HA.out
      obtain ⟨P, hP⟩ : ∃ P, P = Oct.pc s.data.toList 16 k := ⟨_, rfl⟩
      rw [← hP] at hp he
      obtain ⟨Z, hZ⟩ : ∃ Z, Z = decK key P := ⟨_, rfl⟩
      have hMz : Oct.pc M.data.toList 16 k = Z := by
        rw [HMM.out, manyK, list_bs, if_pos rfl, pc_many _ (decK_size key) _ _ _ (by have := HA.out; omega), hZ, hP]
      rw [hMz] at he2
      have hVs : V.size = 16 := by rw [HV.out]; exact prevD_size _ HI.out _ _ (by have := HA.out; omega)
      have hZs : Z.size = 16 := by rw [hZ]; exact decK_size key P
      obtain ⟨Y, hY⟩ : ∃ Y, Y = Sched.xorS Z V := ⟨_, rfl⟩
      have hYs : Y.size = 16 := by rw [hY]; exact xor16_size _ _ hZs hVs
      have hPp : P = prevD iv s.data.toList (k + 1) := hP
      have c3 := RefSched.xor_m Z V (by omega) (by omega) Y hY
      have hsz : ¬ 9223372036854775807 < O.size + Y.size := by omega
      have hO2 : O ++ Y = bs (chainD (decK key) iv s.data.toList (k + 1)) := by
        apply ba_ext
        rw [app_list, HO.out, list_bs, list_bs, chainD, hY, hZ, hP, HV.out]
      have i1 : (0 : Int) ≤ (a : Int) := by omega
      have i2 : (a : Int) + 16 ≤ (s.size : Int) := by omega
      have i3 : (a : Int) + 16 ≤ (M.size : Int) := by have := HMs.out; omega
      clear hOs hp hP hY hVs hZ hZs hYs hMz hsl
      have HO2 := Lib.hid hO2
      have HPp := Lib.hid hPp
      clear hO2 hPp
      go_wp2_with fail
      rw [he2]
      refine c3.calls HS.out ?_
      intro w2 h2
      have H2 := Lib.hid h2
      clear h2
      go_wp2_with fail
      rw [he]
      go_roundw
      case rel => exact ⟨a + 16, k + 1, P, _, by go_num, rfl, rfl, Lib.hid (by have := HA.out; omega), hak, HPp, HO2, H2⟩
      case measure => simp [intOf]; omega
    · have hd : decide ((a : Int) < (s.size : Int)) = false := decide_eq_false (by omega)
      have e : O = X := by
        rw [HO.out, HX.out, decC, show s.size / 16 = k from by have := HA.out; omega]
      subst e
      clear hOs hsl
      go_wp2_with fail
      go_ret2
      exact ⟨rfl, HS.out⟩
theorem last_yes (iv s : ByteArray) (hs : 16 ≤ s.size) (hm : s.size ≤ 140737488355328) (X : ByteArray) (hX : X = s.extract (s.size - 16) s.size) : Ret 31 #[.string iv, .string s] (.string X) := by
  intro w
  have t1 : decide ((s.size : Int) < 16) = false := decide_eq_false (by omega)
  have e : (s.size : Int) - 16 = ((s.size - 16 : Nat) : Int) := by omega
  have i1 : (0 : Int) ≤ (s.size : Int) - 16 := by omega
  have i2 : (s.size : Int) - 16 ≤ (s.size : Int) := by omega
  have HX := Lib.hid hX
  have HE := Lib.hid e
  clear hX e
  go_enter Try.func31, Try.ntmps31
  go_wp2_with fail
  go_ret
  exact ⟨by rw [HX.out, HE.out]; rfl, rfl⟩
theorem last_no (iv s : ByteArray) (hs : s.size < 16) : Ret 31 #[.string iv, .string s] (.string iv) := by
  intro w
  have t1 : decide ((s.size : Int) < 16) = true := decide_eq_true (by omega)
  go_enter Try.func31, Try.ntmps31
  go_wp2_with fail
  go_ret
  exact ⟨rfl, rfl⟩
end RefCbc
end Go.Proofs.Ytijpmfnomdngpaa

/- cbc: what is encrypted, decrypted, is what it was; a chain in two pieces. What the law calls awake. -/
namespace Go.Proofs.Ytijpmfnomdngpaa
open Go.RowKit
namespace Cbc
open Rnd Aes RefAes RefCbc

theorem xorS_16 (a b : ByteArray) (ha : a.size = 16) (hb : b.size = 16) : Sched.xorS a b = bs (xorL a.data.toList b.data.toList) := by
  unfold Sched.xorS
  rw [ha, hb]
  exact xor_str _ _
theorem xorS_back (a b : ByteArray) (ha : a.size = 16) (hb : b.size = 16) : Sched.xorS (Sched.xorS a b) b = a := by
  rw [xorS_16 a b ha hb, xorS_16 _ b (by rw [size_bs, xorL_len]) hb, list_bs, xor_xor _ _ ha]
  exact bs_list a
theorem pc_chain (f : ByteArray → ByteArray) (hf : ∀ b, (f b).size = 16) (iv : ByteArray) (l : List UInt8) (n k : Nat) (h : k < n) : Oct.pc (chainE f iv l n) 16 k = prevE f iv l (k + 1) := by
  induction n with
  | zero => omega
  | succ n ih =>
    have hn := chainE_len f hf iv l n
    rw [chainE]
    by_cases hk : k < n
    · rw [← ih hk]
      unfold Oct.pc
      rw [List.drop_append_of_le_length (by omega), List.take_append_of_le_length (by rw [List.length_drop]; omega)]
    · obtain rfl : k = n := by omega
      unfold Oct.pc
      rw [List.drop_append, List.drop_eq_nil_of_le (by omega), hn, Nat.sub_self, List.nil_append, List.drop_zero]
      have h9 : (prevE f iv l (k + 1)).data.toList.length = 16 := hf _
      rw [List.take_of_length_le (by omega)]
      exact bs_list _
theorem chainE_len16 (f : ByteArray → ByteArray) (hf : ∀ b, (f b).size = 16) (iv : ByteArray) (l : List UInt8) (k : Nat) : (chainE f iv l k).length = 16 * k := chainE_len f hf iv l k
theorem prevD_chain (f : ByteArray → ByteArray) (hf : ∀ b, (f b).size = 16) (iv : ByteArray) (l : List UInt8) (n k : Nat) (h : k ≤ n) : prevD iv (chainE f iv l n) k = prevE f iv l k := by
  cases k with
  | zero => rfl
  | succ k => exact pc_chain f hf iv l n k (by omega)
theorem take_pc (l : List UInt8) (k : Nat) : l.take (16 * k) ++ (Oct.pc l 16 k).data.toList = l.take (16 * (k + 1)) := by
  unfold Oct.pc
  rw [list_bs, show 16 * (k + 1) = 16 * k + 16 from by omega, List.take_add]
theorem chain_back (f g : ByteArray → ByteArray) (hf : ∀ b, (f b).size = 16) (hg : ∀ b, b.size = 16 → g (f b) = b) (iv : ByteArray) (hiv : iv.size = 16) (l : List UInt8) (n k : Nat) (hl : l.length = 16 * n) (h : k ≤ n) : chainD g iv (chainE f iv l n) k = l.take (16 * k) := by
  induction k with
  | zero => simp [chainD]
  | succ k ih =>
    rw [chainD, ih (by omega), pc_chain f hf iv l n k (by omega), prevD_chain f hf iv l n k (by omega), prevE,
      hg _ (xor16_size _ _ (pc_size l k (by omega)) (prevE_size f hf iv hiv l k)), xorS_back _ _ (pc_size l k (by omega)) (prevE_size f hf iv hiv l k), take_pc]
theorem dec_encC (key iv s : ByteArray) (hiv : iv.size = 16) (hs : s.size % 16 = 0) : decC key iv (encC key iv s) = s := by
  have hl : s.data.toList.length = s.size := rfl
  apply ba_ext
  unfold decC
  rw [list_bs]
  have hz : (encC key iv s).size / 16 = s.size / 16 := by unfold encC; rw [size_bs, chainE_len _ (encK_size key)]; omega
  rw [hz]
  unfold encC
  rw [list_bs, chain_back (encK key) (decK key) (encK_size key) (fun b hb => decK_encK key b hb) iv hiv _ _ _ (by omega) (Nat.le_refl _), List.take_of_length_le (by omega)]
theorem pc_app_l (l m : List UInt8) (k n : Nat) (hl : l.length = 16 * n) (h : k < n) : Oct.pc (l ++ m) 16 k = Oct.pc l 16 k := by
  unfold Oct.pc
  rw [List.drop_append_of_le_length (by omega), List.take_append_of_le_length (by rw [List.length_drop]; omega)]
theorem pc_app_r (l m : List UInt8) (k n : Nat) (hl : l.length = 16 * n) : Oct.pc (l ++ m) 16 (n + k) = Oct.pc m 16 k := by
  unfold Oct.pc
  rw [List.drop_append, List.drop_eq_nil_of_le (by omega), List.nil_append, show 16 * (n + k) - l.length = 16 * k from by omega]
theorem prev_app_l (f : ByteArray → ByteArray) (iv : ByteArray) (l m : List UInt8) (n k : Nat) (hl : l.length = 16 * n) (h : k ≤ n) : prevE f iv (l ++ m) k = prevE f iv l k := by
  induction k with
  | zero => rfl
  | succ k ih => rw [prevE, prevE, ih (by omega), pc_app_l l m k n hl (by omega)]
theorem chain_app_l (f : ByteArray → ByteArray) (iv : ByteArray) (l m : List UInt8) (n k : Nat) (hl : l.length = 16 * n) (h : k ≤ n) : chainE f iv (l ++ m) k = chainE f iv l k := by
  induction k with
  | zero => rfl
  | succ k ih => rw [chainE, chainE, ih (by omega), prev_app_l f iv l m n (k + 1) hl h]
theorem prev_app (f : ByteArray → ByteArray) (iv : ByteArray) (l m : List UInt8) (n k : Nat) (hl : l.length = 16 * n) : prevE f iv (l ++ m) (n + k) = prevE f (prevE f iv l n) m k := by
  induction k with
  | zero => exact prev_app_l f iv l m n n hl (Nat.le_refl _)
  | succ k ih => rw [← Nat.add_assoc, prevE, prevE, ih, pc_app_r l m k n hl]
theorem chain_app (f : ByteArray → ByteArray) (iv : ByteArray) (l m : List UInt8) (n k : Nat) (hl : l.length = 16 * n) : chainE f iv (l ++ m) (n + k) = chainE f iv l n ++ chainE f (prevE f iv l n) m k := by
  induction k with
  | zero => rw [Nat.add_zero, chain_app_l f iv l m n n hl (Nat.le_refl _), chainE, List.append_nil]
  | succ k ih => rw [← Nat.add_assoc, chainE, ih, chainE, List.append_assoc, Nat.add_assoc, prev_app f iv l m n (k + 1) hl]
/-- the last block of a chain -/
theorem last_chain (f : ByteArray → ByteArray) (hf : ∀ b, (f b).size = 16) (iv : ByteArray) (l : List UInt8) (n : Nat) (X : ByteArray) (hX : X = bs (chainE f iv l (n + 1))) : X.extract (X.size - 16) X.size = prevE f iv l (n + 1) := by
  have hs : X.size = 16 * (n + 1) := by rw [hX, size_bs, chainE_len f hf]
  apply ba_ext
  rw [ext_list, hs, hX, list_bs]
  have h := congrArg (fun b : ByteArray => b.data.toList) (pc_chain f hf iv l (n + 1) n (by omega))
  unfold Oct.pc at h
  simp only [list_bs] at h
  rw [← h, show 16 * (n + 1) - 16 = 16 * n from by omega, show 16 * (n + 1) - 16 * n = 16 from by omega]
theorem last_mak (key iv : ByteArray) (l : List UInt8) (n : Nat) (X : ByteArray) (hX : X = bs (chainE (encK key) iv l n)) (hm : X.size ≤ 140737488355328) : Ret 30 #[.string iv, .string X] (.string (prevE (encK key) iv l n)) := by
  cases n with
  | zero => exact last_no iv X (by rw [hX, size_bs, chainE]; decide)
  | succ n => exact last_yes iv X (by rw [hX, size_bs, chainE_len _ (encK_size key)]; omega) hm _ (last_chain _ (encK_size key) _ _ _ _ hX).symm

def zero16 : ByteArray := ⟨#[0, 0, 0, 0, 0, 0, 0, 0, 0, 0, 0, 0, 0, 0, 0, 0]⟩
def aKey : ByteArray := ⟨#[48, 49, 50, 51, 52, 53, 54, 55, 56, 57, 97, 98, 99, 100, 101, 102]⟩
def aText : ByteArray := ⟨#[102, 101, 100, 99, 98, 97, 57, 56, 55, 54, 53, 52, 51, 50, 49, 48]⟩
theorem pc_whole (s : ByteArray) (h : s.size = 16) : Oct.pc s.data.toList 16 0 = s := by
  unfold Oct.pc
  have h9 : s.data.toList.length = 16 := h
  rw [Nat.mul_zero, List.drop_zero, List.take_of_length_le (by omega)]
  exact bs_list s
theorem enc_zero : encC aKey zero16 aText = encK aKey aText := by
  apply ba_ext
  unfold encC
  rw [list_bs, show aText.size / 16 = 1 from rfl, chainE, chainE, List.nil_append, prevE, prevE, pc_whole aText rfl, show Sched.xorS aText zero16 = aText from by decide +kernel]
set_option maxHeartbeats 1000000 in
theorem awake_mak : Mak 25 #[] (.bool true) := by
  intro w
  have H0 := Lib.hid (Since.refl w)
  obtain ⟨X, hX⟩ : ∃ X, X = encK aKey aText := ⟨_, rfl⟩
  have c1 := enc_yes aKey zero16 aText (Or.inl rfl) rfl rfl (by decide) X (by rw [hX, enc_zero])
  have c2 := RefAes.enc_yes aKey aText (Or.inl rfl) rfl X hX
  unfold aKey zero16 aText at c1
  unfold aKey aText at c2
  clear hX
  go_enter Try.func25, Try.ntmps25
  go_wp2_with fail
  refine c1.calls H0.out ?_
  intro w1 h1
  have H1 := Lib.hid h1
  clear h1
  go_wp2_with fail
  refine c2.calls H1.out ?_
  intro w2 h2
  have H2 := Lib.hid h2
  clear h2
  go_wp2_with fail
  go_ret
  exact ⟨rfl, H2.out⟩
end Cbc
end Go.Proofs.Ytijpmfnomdngpaa
