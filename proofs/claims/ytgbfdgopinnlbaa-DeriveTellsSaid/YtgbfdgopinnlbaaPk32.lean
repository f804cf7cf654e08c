/- Joined texts. -/
-- PACK: YtgbfdgopinnlbaaAes8 YtgbfdgopinnlbaaAes9 YtgbfdgopinnlbaaAes10 YtgbfdgopinnlbaaAes11 YtgbfdgopinnlbaaCmac YtgbfdgopinnlbaaRefCmac YtgbfdgopinnlbaaCbc YtgbfdgopinnlbaaCmac2
import Derived.Test.YtgbfdgopinnlbaaPk31
import Derived.ScopeJumps
import Derived.WalkMore
import Derived.Test.YtgbfdgopinnlbaaPk30
import Derived.Test.YtgbfdgopinnlbaaPk14
import Derived.Test.YtgbfdgopinnlbaaPk17

/- Package aes: a block decrypted by a cipher. -/
namespace Go.Proofs.Ytgbfdgopinnlbaa
open Go.RowKit
namespace Aes
open Rnd

set_option maxRecDepth 100000 in
set_option maxHeartbeats 2000000 in
theorem dec_no (c : Nat) (ks : List ByteArray) (n : Nat) (len : Int) (hn : (len == 0) = false) (s : ByteArray) (hs : s.size ≠ 16) (hm : s.size ≤ 140737488355328) (w : World) (hC : Cip w c ks n len) :
    Calls Try.prog 98 #[.pointer (some ⟨c, 0, none⟩), .string s] w fun e w' => e = .returned (.tuple #[.string ⟨#[]⟩, .int .i64 4]) ∧ Since w w' := by
  have c1 := read_no c ks n len hn s hs hm w hC
  have HC1 := Lib.hid c1
  clear hC hs c1
  go_enter Try.func98, Try.ntmps98
  go_wp2_with fail
  go_step3
  go_wp2_with fail
  refine HC1.out.mono ?_
  rintro e w2 ⟨rfl, h2⟩
  have hs2 := Lib.hid (Since.alloc h2 (.cells Z16 108))
  have hb2 := Lib.hid (Go.heap_alloc_new w2 (.cells Z16 108))
  have hg := Lib.hid (Below.size h2)
  clear h2
  go_wp2_with (refine wpList_store_row rfl 108 _ _ rfl w2.heap.size Z16 (by rfl) (by rfl) _ _ hb2.out i16 rfl z16_one ?_)
  rw [Exit.noGoto_ret]
  go_ret2
  exact ⟨rfl, below_setRow hs2.out hg.out _⟩

set_option maxRecDepth 100000 in
set_option maxHeartbeats 4000000 in
theorem dec_yes (c : Nat) (ks : List ByteArray) (n : Nat) (hn14 : n ≤ 14) (hn1 : 1 ≤ n) (len : Int) (hn : (len == 0) = false) (s : ByteArray) (hs : s.size = 16) (X : ByteArray) (hX : X = bs (decL ks n s.data.toList)) (w : World) (hC : Cip w c ks n len) :
    Calls Try.prog 98 #[.pointer (some ⟨c, 0, none⟩), .string s] w fun e w' => e = .returned (.tuple #[.string X, .int .i64 0]) ∧ Since w w' := by
  have HL : Hid (s.data.toList.length = 16) := Lib.hid hs
  obtain ⟨D, hD⟩ : ∃ D, D = blC s.data.toList := ⟨_, rfl⟩
  have hDs : D.size = 16 := by rw [hD, blC_size]
  have hD1 : D.all (·.oneCell') = true := by rw [hD]; exact blC_one _
  have iD : (Try.prog.info? 108).map (·.size) = some D.size := by rw [hDs]; exact i16
  have HC1 := Lib.hid (read_yes c ks n len hn s hs D hD w hC)
  have HC := Lib.hid hC
  have HX := Lib.hid hX
  clear hC hX hs
  have HDs := Lib.hid hDs
  clear hDs
  have HD1 := Lib.hid hD1
  clear hD1
  have H_iD := Lib.hid iD
  clear iD
  have HD := Lib.hid hD
  clear hD
  go_enter Try.func98, Try.ntmps98
  go_wp2_with fail
  refine wp_scope_jumps 0 (fun a' w' => ∃ (b j : Nat) (i : Int) (u1 u2 u3 u4 u5 u7 u9 u10 u11 u12 u13 u14 u15 u16 u17 u18 u19 u20 u21 u22 u23 u24 u25 u26 u27 u28 u29 u30 u31 u32 u33 u34 u35 u36 u37 u38 u39 u40 u41 u42 u43 u44 u45 u46 u47 u48 u49 u50 u51 : Value), a' = { tmps := #[.pointer (some ⟨c, 0, none⟩), u1, u2, u3, u4, u5, .pointer (some ⟨b, 0, none⟩), u7, .int .i64 i, u9, u10, u11, u12, u13, u14, u15, u16, u17, u18, u19, u20, u21, u22, u23, u24, u25, u26, u27, u28, u29, u30, u31, u32, u33, u34, u35, u36, u37, u38, u39, u40, u41, u42, u43, u44, u45, u46, u47, u48, u49, u50, u51], defers := [] } ∧ i = (j : Int) ∧ 1 ≤ j ∧ j ≤ n ∧ Hid (w.heap.size ≤ b) ∧ Hid (w'.heap[b]? = some (.cells (blC (bwdL ks n s.data.toList (n - j))) 108 (0, 0))) ∧ Hid (Since w w')) (fun a' _ => (intOf (a'.tmps.getD 8 undef)).toNat) rfl ?_ ?_
  · go_wp2_with fail
    refine HC1.out.mono ?_
    rintro e w2 ⟨rfl, h2⟩
    have hset := World.setRow_alloc_new w2 Z16 D 108
    have hb2 := Go.heap_alloc_new w2 (.cells D 108)
    have hz2 := Go.heap_alloc_new w2 (.cells Z16 108)
    have hs2 : Since w (w2.alloc (.cells D 108)) := Since.alloc h2 _
    obtain ⟨b, hb⟩ : ∃ b, b = w2.heap.size := ⟨_, rfl⟩
    have hg : w.heap.size ≤ b := by rw [hb]; exact Below.size h2
    have hcn := (HC.out.since hs2).rd
    unfold Z16 at hset
    have Hset := Lib.hid hset
    clear hset
    have Hz2 := Lib.hid hz2
    clear hz2
    go_wp2_with (refine wpList_store_row rfl 108 _ _ rfl w2.heap.size D (by rfl) (by rfl) _ _ Hz2.out H_iD.out (by rw [HDs.out]; rfl) HD1.out ?_; rw [Hset.out])
    rw [← hb] at hb2 ⊢
    obtain ⟨W, hW⟩ : ∃ W, W = w2.alloc (.cells D 108) := ⟨_, rfl⟩
    rw [← hW] at hb2 hs2 hcn ⊢
    obtain ⟨j, hj⟩ : ∃ j, j = n := ⟨_, rfl⟩
    have hjn : (n : Int) = (j : Int) := by rw [hj]
    have HB : Hid (W.heap[b]? = some (.cells (blC (bwdL ks n s.data.toList (n - j))) 108 (0, 0))) := Lib.hid (by rw [hj, Nat.sub_self, bwdL, ← HD.out]; exact hb2)
    have HS := Lib.hid hs2
    have Hg := Lib.hid hg
    have hj1 : 1 ≤ j := by omega
    have hjn2 : j ≤ n := by omega
    rw [hjn]
    clear hb2 hs2 hcn hg hb hW h2 Hset Hz2 hj hjn
    go_step3
    have hcn := (HC.out.since HS.out).rd
    obtain ⟨F, hF⟩ : ∃ F, F = blC (bwdL ks n s.data.toList (n - j)) := ⟨_, rfl⟩
    rw [← hF] at HB
    obtain ⟨Kj, hKj⟩ : ∃ K, K = blC (rk ks j) := ⟨_, rfl⟩
    obtain ⟨E, hE⟩ : ∃ E, E = blC (bwdL ks n s.data.toList (n - (j - 1))) := ⟨_, rfl⟩
    obtain ⟨q, hq⟩ : ∃ q, q = decide (j = n) := ⟨_, rfl⟩
    have hqe : ((j : Int) == (n : Int)) = q := by
      rw [hq]
      by_cases h : j = n
      · rw [decide_eq_true h, beq_iff_eq, h]
      · rw [decide_eq_false h, beq_eq_false_iff_ne]; omega
    have hEe : E = blC (undoL q (bwdL ks n s.data.toList (n - j)) (rk ks j)) := by
      rw [hE, hq, show n - (j - 1) = (n - j) + 1 from by omega, bwdL, show n - (n - j) = j from by omega]
    have c1 := undo_calls (bwdL ks n s.data.toList (n - j)) (rk ks j) (bwdL_len _ _ _ HL.out _) c q F Kj E hF hKj hEe W.drew ((HC.out.since HS.out).tb.since (Since.drew (Since.refl _)))
    have l1 : (Instr.loadAt 108 (.pointer (some ⟨b, 0, none⟩))).run Try.prog W.drew = .ok (.agg F) W.drew := row_load _ _ _ (by rw [hF, blC_size]) HB.out
    have l2 : (Instr.loadAt 108 (.pointer (some ⟨c, 1794 + j * 16, none⟩))).run Try.prog W.drew = .ok (.agg Kj) W.drew := key_load _ _ _ _ _ (HC.out.since (Since.drew HS.out)) j _ (by omega) (by omega) _ hKj
    have i1 : (0 : Int) ≤ (j : Int) := by omega
    have i2 : (j : Int) < 15 := by omega
    have hFs : F.size = 16 := by rw [hF, blC_size]
    have hEs : E.size = 16 := by rw [hE, blC_size]
    have hE1 : E.all (·.oneCell') = true := by rw [hE]; exact blC_one _
    have iE : (Try.prog.info? 108).map (·.size) = some E.size := by rw [hEs]; exact i16
    clear hq hEe hF hKj
    have HE := Lib.hid hE
    clear hE
    have HFs := Lib.hid hFs
    clear hFs
    have HEs := Lib.hid hEs
    clear hEs
    have HE1 := Lib.hid hE1
    clear hE1
    have H_iE := Lib.hid iE
    clear iE
    have H_c1 := Lib.hid c1
    clear c1
    go_wp2_with fail
    refine wp_region_still_tail 16 (by kernel_rfl) (by kernel_rfl) ?_
    simp only [List.take_succ_cons, List.take_zero, List.drop_succ_cons, List.drop_zero]
    change wpStill _ _ W.drew (fun a' => wpList _ _ _ _ a' W.drew) _ _
    repeat (first
      | ((with_reducible refine wpStill_load (some 25) 108 (.tmp 6) _ _ ?_ l1 ?_) <;> try rfl)
      | ((with_reducible refine wpStill_load (some 31) 108 (.tmp 30) _ _ ?_ l2 ?_) <;> try rfl)
      | (refine wpStill_step (fun K hK => ?_); go_simp; refine hK _ ?_; clear hK K))
    refine wpStill_nil ?_
    go_wp2_with fail
    refine H_c1.out.mono ?_
    rintro e w3 ⟨rfl, h3⟩
    have hb3 := (h3.block b (by have := lt_of_heap HB.out; simp; omega)).trans HB.out
    have hs3 := Since.step (Since.drew HS.out) h3
    clear h3 l1 l2 HB HS hcn
    have HB4 := Lib.hid (row_set (D := E) hb3)
    have HS4 : Hid (Since w (w3.setRow b E)) := Lib.hid (below_setRow hs3 Hg.out _)
    have Hb3 := Lib.hid hb3
    clear hb3
    have Hs3 := Lib.hid hs3
    clear hs3
    by_cases hj2 : 1 < j
    · have hd : decide ((0 : Int) < (j : Int) - 1) = true := decide_eq_true (by omega)
      have hd2 : decide ((1 : Int) < (j : Int)) = true := decide_eq_true (by omega)
      go_wp2_with (refine wpList_store_row rfl 108 _ _ rfl b E (by rfl) (by rfl) _ _ Hb3.out H_iE.out (by rw [HFs.out, HEs.out]) HE1.out ?_)
      go_step3
      have ej : ((j - 1 : Nat) : Int) = (j : Int) - 1 := by omega
      exact ⟨rfl, b, j - 1, _, _, _, _, _, _, _, _, _, _, _, _, _, _, _, _, _, _, _, _, _, _, _, _, _, _, _, _, _, _, _, _, _, _, _, _, _, _, _, _, _, _, _, _, _, _, _, _, _, _, rfl, by omega, by omega, by omega, Hg, Lib.hid (by rw [← HE.out]; exact HB4.out), HS4⟩
    · obtain ⟨K0, hK0⟩ : ∃ K, K = blC (rk ks 0) := ⟨_, rfl⟩
      obtain ⟨G, hG⟩ : ∃ E, E = blC (decL ks n s.data.toList) := ⟨_, rfl⟩
      have hG2 : G = blC (xorL (bwdL ks n s.data.toList (n - (j - 1))) (rk ks 0)) := by
        rw [hG, decL, show n - (j - 1) = n from by omega]
      have ca := add_mak _ _ E K0 G HE.out hK0 hG2
      have hd : decide ((0 : Int) < (j : Int) - 1) = false := decide_eq_false (by omega)
      have hd2 : decide ((1 : Int) < (j : Int)) = false := decide_eq_false (by omega)
      obtain ⟨W, hW⟩ : ∃ W, W = w3.setRow b E := ⟨_, rfl⟩
      have hWW := hW
      rw [← hW] at HB4 HS4
      have l1 : (Instr.loadAt 108 (.pointer (some ⟨b, 0, none⟩))).run Try.prog W.drew = .ok (.agg E) W.drew := row_load _ _ _ HEs.out HB4.out
      have l2 : (Instr.loadAt 108 (.pointer (some ⟨c, 1794, none⟩))).run Try.prog W.drew = .ok (.agg K0) W.drew := key_load _ _ _ _ _ (HC.out.since (Since.drew HS4.out)) 0 _ (by omega) rfl _ hK0
      have hGs : G.size = 16 := by rw [hG, blC_size]
      have hG1 : G.all (·.oneCell') = true := by rw [hG]; exact blC_one _
      have iG : (Try.prog.info? 108).map (·.size) = some G.size := by rw [hGs]; exact i16
      clear hW hG2 hK0
      have HG := Lib.hid hG
      clear hG
      have HGs := Lib.hid hGs
      clear hGs
      have HG1 := Lib.hid hG1
      clear hG1
      have H_iG := Lib.hid iG
      clear iG
      have H_ca := Lib.hid ca
      clear ca
      have HWW := Lib.hid hWW
      clear hWW
      go_wp2_with (refine wpList_store_row rfl 108 _ _ rfl b E (by rfl) (by rfl) _ _ Hb3.out H_iE.out (by rw [HFs.out, HEs.out]) HE1.out ?_)
      rw [← HWW.out]
      refine wp_region_still_tail 6 (by kernel_rfl) (by kernel_rfl) ?_
      simp only [List.take_succ_cons, List.take_zero, List.drop_succ_cons, List.drop_zero]
      change wpStill _ _ W.drew (fun a' => wpList _ _ _ _ a' W.drew) _ _
      repeat (first
        | ((with_reducible refine wpStill_load (some 43) 108 (.tmp 6) _ _ ?_ l1 ?_) <;> try rfl)
        | ((with_reducible refine wpStill_load (some 48) 108 (.tmp 47) _ _ ?_ l2 ?_) <;> try rfl)
        | (refine wpStill_step (fun K hK => ?_); go_simp; refine hK _ ?_; clear hK K))
      refine wpStill_nil ?_
      go_wp2_with fail
      refine (H_ca.out _).mono ?_
      rintro e w4 ⟨rfl, h4⟩
      have hb5 := (h4.block b (by have := lt_of_heap HB4.out; simp; omega)).trans HB4.out
      have hs5 := Since.step (Since.drew HS4.out) h4
      clear h4 l1 l2
      have HB6 := Lib.hid (row_set (D := G) hb5)
      have HS6 : Hid (Since w (w4.setRow b G)) := Lib.hid (below_setRow hs5 Hg.out _)
      have hsl : ∀ w', (Instr.sliceAt 108 (.pointer (some ⟨b, 0, none⟩)) none none none).run Try.prog w' = .ok (.slice (some ⟨b, 0, none⟩) 16 16) w' := slice_b _ _
      have hcv := conv16 _ (decL_len ks n s.data.toList) (w4.setRow b G) b (by rw [← HG.out]; exact HB6.out)
      rw [← HX.out] at hcv
      have Hb5 := Lib.hid hb5
      clear hb5
      have Hs5 := Lib.hid hs5
      clear hs5
      go_wp2_with (refine wpList_store_row rfl 108 _ _ rfl b G (by rfl) (by rfl) _ _ Hb5.out H_iG.out (by rw [HEs.out, HGs.out]) HG1.out ?_)
      simp only [Exit.jump]
      go_ret2
      exact ⟨rfl, HS6.out⟩
  · rintro a' w' ⟨b, j, i, u1, u2, u3, u4, u5, u7, u9, u10, u11, u12, u13, u14, u15, u16, u17, u18, u19, u20, u21, u22, u23, u24, u25, u26, u27, u28, u29, u30, u31, u32, u33, u34, u35, u36, u37, u38, u39, u40, u41, u42, u43, u44, u45, u46, u47, u48, u49, u50, u51, rfl, rfl, hj1, hjn2, Hg, HB, HS⟩
    have hcn := (HC.out.since HS.out).rd
    obtain ⟨F, hF⟩ : ∃ F, F = blC (bwdL ks n s.data.toList (n - j)) := ⟨_, rfl⟩
    rw [← hF] at HB
    obtain ⟨Kj, hKj⟩ : ∃ K, K = blC (rk ks j) := ⟨_, rfl⟩
    obtain ⟨E, hE⟩ : ∃ E, E = blC (bwdL ks n s.data.toList (n - (j - 1))) := ⟨_, rfl⟩
    obtain ⟨q, hq⟩ : ∃ q, q = decide (j = n) := ⟨_, rfl⟩
    have hqe : ((j : Int) == (n : Int)) = q := by
      rw [hq]
      by_cases h : j = n
      · rw [decide_eq_true h, beq_iff_eq, h]
      · rw [decide_eq_false h, beq_eq_false_iff_ne]; omega
    have hEe : E = blC (undoL q (bwdL ks n s.data.toList (n - j)) (rk ks j)) := by
      rw [hE, hq, show n - (j - 1) = (n - j) + 1 from by omega, bwdL, show n - (n - j) = j from by omega]
    have c1 := undo_calls (bwdL ks n s.data.toList (n - j)) (rk ks j) (bwdL_len _ _ _ HL.out _) c q F Kj E hF hKj hEe w'.drew ((HC.out.since HS.out).tb.since (Since.drew (Since.refl _)))
    have l1 : (Instr.loadAt 108 (.pointer (some ⟨b, 0, none⟩))).run Try.prog w'.drew = .ok (.agg F) w'.drew := row_load _ _ _ (by rw [hF, blC_size]) HB.out
    have l2 : (Instr.loadAt 108 (.pointer (some ⟨c, 1794 + j * 16, none⟩))).run Try.prog w'.drew = .ok (.agg Kj) w'.drew := key_load _ _ _ _ _ (HC.out.since (Since.drew HS.out)) j _ (by omega) (by omega) _ hKj
    have i1 : (0 : Int) ≤ (j : Int) := by omega
    have i2 : (j : Int) < 15 := by omega
    have hFs : F.size = 16 := by rw [hF, blC_size]
    have hEs : E.size = 16 := by rw [hE, blC_size]
    have hE1 : E.all (·.oneCell') = true := by rw [hE]; exact blC_one _
    have iE : (Try.prog.info? 108).map (·.size) = some E.size := by rw [hEs]; exact i16
    clear hq hEe hF hKj
    have HE := Lib.hid hE
    clear hE
    have HFs := Lib.hid hFs
    clear hFs
    have HEs := Lib.hid hEs
    clear hEs
    have HE1 := Lib.hid hE1
    clear hE1
    have H_iE := Lib.hid iE
    clear iE
    have H_c1 := Lib.hid c1
    clear c1
    go_wp2_with fail
    refine wp_region_still_tail 16 (by kernel_rfl) (by kernel_rfl) ?_
    simp only [List.take_succ_cons, List.take_zero, List.drop_succ_cons, List.drop_zero]
    change wpStill _ _ w'.drew (fun a' => wpList _ _ _ _ a' w'.drew) _ _
    repeat (first
      | ((with_reducible refine wpStill_load (some 25) 108 (.tmp 6) _ _ ?_ l1 ?_) <;> try rfl)
      | ((with_reducible refine wpStill_load (some 31) 108 (.tmp 30) _ _ ?_ l2 ?_) <;> try rfl)
      | (refine wpStill_step (fun K hK => ?_); go_simp; refine hK _ ?_; clear hK K))
    refine wpStill_nil ?_
    go_wp2_with fail
    refine H_c1.out.mono ?_
    rintro e w3 ⟨rfl, h3⟩
    have hb3 := (h3.block b (by have := lt_of_heap HB.out; simp; omega)).trans HB.out
    have hs3 := Since.step (Since.drew HS.out) h3
    clear h3 l1 l2 HB HS hcn
    have HB4 := Lib.hid (row_set (D := E) hb3)
    have HS4 : Hid (Since w (w3.setRow b E)) := Lib.hid (below_setRow hs3 Hg.out _)
    have Hb3 := Lib.hid hb3
    clear hb3
    have Hs3 := Lib.hid hs3
    clear hs3
    by_cases hj2 : 1 < j
    · have hd : decide ((0 : Int) < (j : Int) - 1) = true := decide_eq_true (by omega)
      have hd2 : decide ((1 : Int) < (j : Int)) = true := decide_eq_true (by omega)
      go_wp2_with (refine wpList_store_row rfl 108 _ _ rfl b E (by rfl) (by rfl) _ _ Hb3.out H_iE.out (by rw [HFs.out, HEs.out]) HE1.out ?_)
      go_step3
      have ej : ((j - 1 : Nat) : Int) = (j : Int) - 1 := by omega
      exact ⟨rfl, ⟨b, j - 1, _, _, _, _, _, _, _, _, _, _, _, _, _, _, _, _, _, _, _, _, _, _, _, _, _, _, _, _, _, _, _, _, _, _, _, _, _, _, _, _, _, _, _, _, _, _, _, _, _, _, rfl, by omega, by omega, by omega, Hg, Lib.hid (by rw [← HE.out]; exact HB4.out), HS4⟩, by simp [intOf]; omega⟩
    · obtain ⟨K0, hK0⟩ : ∃ K, K = blC (rk ks 0) := ⟨_, rfl⟩
      obtain ⟨G, hG⟩ : ∃ E, E = blC (decL ks n s.data.toList) := ⟨_, rfl⟩
      have hG2 : G = blC (xorL (bwdL ks n s.data.toList (n - (j - 1))) (rk ks 0)) := by
        rw [hG, decL, show n - (j - 1) = n from by omega]
      have ca := add_mak _ _ E K0 G HE.out hK0 hG2
      have hd : decide ((0 : Int) < (j : Int) - 1) = false := decide_eq_false (by omega)
      have hd2 : decide ((1 : Int) < (j : Int)) = false := decide_eq_false (by omega)
      obtain ⟨W, hW⟩ : ∃ W, W = w3.setRow b E := ⟨_, rfl⟩
      have hWW := hW
      rw [← hW] at HB4 HS4
      have l1 : (Instr.loadAt 108 (.pointer (some ⟨b, 0, none⟩))).run Try.prog W.drew = .ok (.agg E) W.drew := row_load _ _ _ HEs.out HB4.out
      have l2 : (Instr.loadAt 108 (.pointer (some ⟨c, 1794, none⟩))).run Try.prog W.drew = .ok (.agg K0) W.drew := key_load _ _ _ _ _ (HC.out.since (Since.drew HS4.out)) 0 _ (by omega) rfl _ hK0
      have hGs : G.size = 16 := by rw [hG, blC_size]
      have hG1 : G.all (·.oneCell') = true := by rw [hG]; exact blC_one _
      have iG : (Try.prog.info? 108).map (·.size) = some G.size := by rw [hGs]; exact i16
      clear hW hG2 hK0
      have HG := Lib.hid hG
      clear hG
      have HGs := Lib.hid hGs
      clear hGs
      have HG1 := Lib.hid hG1
      clear hG1
      have H_iG := Lib.hid iG
      clear iG
      have H_ca := Lib.hid ca
      clear ca
      have HWW := Lib.hid hWW
      clear hWW
      go_wp2_with (refine wpList_store_row rfl 108 _ _ rfl b E (by rfl) (by rfl) _ _ Hb3.out H_iE.out (by rw [HFs.out, HEs.out]) HE1.out ?_)
      rw [← HWW.out]
      refine wp_region_still_tail 6 (by kernel_rfl) (by kernel_rfl) ?_
      simp only [List.take_succ_cons, List.take_zero, List.drop_succ_cons, List.drop_zero]
      change wpStill _ _ W.drew (fun a' => wpList _ _ _ _ a' W.drew) _ _
      repeat (first
        | ((with_reducible refine wpStill_load (some 43) 108 (.tmp 6) _ _ ?_ l1 ?_) <;> try rfl)
        | ((with_reducible refine wpStill_load (some 48) 108 (.tmp 47) _ _ ?_ l2 ?_) <;> try rfl)
        | (refine wpStill_step (fun K hK => ?_); go_simp; refine hK _ ?_; clear hK K))
      refine wpStill_nil ?_
      go_wp2_with fail
      refine (H_ca.out _).mono ?_
      rintro e w4 ⟨rfl, h4⟩
      have hb5 := (h4.block b (by have := lt_of_heap HB4.out; simp; omega)).trans HB4.out
      have hs5 := Since.step (Since.drew HS4.out) h4
      clear h4 l1 l2
      have HB6 := Lib.hid (row_set (D := G) hb5)
      have HS6 : Hid (Since w (w4.setRow b G)) := Lib.hid (below_setRow hs5 Hg.out _)
      have hsl : ∀ w', (Instr.sliceAt 108 (.pointer (some ⟨b, 0, none⟩)) none none none).run Try.prog w' = .ok (.slice (some ⟨b, 0, none⟩) 16 16) w' := slice_b _ _
      have hcv := conv16 _ (decL_len ks n s.data.toList) (w4.setRow b G) b (by rw [← HG.out]; exact HB6.out)
      rw [← HX.out] at hcv
      have Hb5 := Lib.hid hb5
      clear hb5
      have Hs5 := Lib.hid hs5
      clear hs5
      go_wp2_with (refine wpList_store_row rfl 108 _ _ rfl b G (by rfl) (by rfl) _ _ Hb5.out H_iG.out (by rw [HEs.out, HGs.out]) HG1.out ?_)
      simp only [Exit.jump]
      go_ret2
      exact ⟨rfl, HS6.out⟩
end Aes
end Go.Proofs.Ytgbfdgopinnlbaa

/- Package aes: a cipher is made. -/
namespace Go.Proofs.Ytgbfdgopinnlbaa
open Go.RowKit
namespace Aes
open Rnd

theorem cipF_lo (ks : List ByteArray) (len r : Int) (k p : Nat) (h : p < 1792) : cipF ks len r k p = tabV p := by unfold cipF; rw [if_pos h]
theorem cip_of_row {w : World} {c t : Nat} {ks : List ByteArray} {n : Nat} {len : Int} (h : w.rowIs c t 2034 (cipF ks len (n : Int) (n + 1))) (hn : n ≤ 14) : Cip w c ks n len := by
  refine ⟨⟨h.lt, fun p hp => ?_⟩, ?_, ?_, fun j hj i hi => ?_⟩
  · rw [h.cell (by omega), cipF_lo _ _ _ _ _ hp]
  · rw [h.cell (by omega)]; rfl
  · rw [h.cell (by omega)]; rfl
  · rw [h.cell (by omega)]
    unfold cipF
    rw [if_neg (by omega), if_neg (by omega), if_neg (by omega), if_pos (by omega), show (1794 + 16 * j + i - 1794) / 16 = j from by omega, show (1794 + 16 * j + i - 1794) % 16 = i from by omega]
theorem cip_step (ks : List ByteArray) (len r : Int) (k : Nat) (l : List UInt8) (hl : l = rk ks k) (hs : l.length = 16) (p : Nat) : putAt (cipF ks len r k) (1794 + 16 * k) l p = cipF ks len r (k + 1) p := by
  unfold putAt
  by_cases h : 1794 + 16 * k ≤ p ∧ p < 1794 + 16 * k + l.length
  · rw [if_pos h]
    unfold cipF
    rw [if_neg (by omega), if_neg (by omega), if_neg (by omega), if_pos (by omega), show (p - 1794) / 16 = k from by omega, ← hl]
    unfold blV ent
    rw [show (p - 1794) % 16 = p - (1794 + 16 * k) from by omega]
  · rw [if_neg h]
    unfold cipF
    by_cases h1 : p < 1792
    · rw [if_pos h1, if_pos h1]
    · rw [if_neg h1, if_neg h1]
      by_cases h2 : p = 1792
      · rw [if_pos h2, if_pos h2]
      · rw [if_neg h2, if_neg h2]
        by_cases h3 : p = 1793
        · rw [if_pos h3, if_pos h3]
        · rw [if_neg h3, if_neg h3]
          by_cases h4 : p < 1794 + 16 * k
          · rw [if_pos h4, if_pos (by omega)]
          · rw [if_neg h4, if_neg (by omega)]
/-- a call that makes a cipher -/
def MakC (f : Nat) (args : Array Value) (ks : List ByteArray) (n : Nat) (len : Int) : Prop := ∀ w, Calls Try.prog f args w fun e w' => ∃ c : Nat, e = .returned (.tuple #[.pointer (some ⟨c, 0, none⟩), .int .i64 0]) ∧ Cip w' c ks n len ∧ Since w w'
set_option maxRecDepth 100000 in
set_option maxHeartbeats 2000000 in
theorem new_no (key : ByteArray) (hm : key.size ≤ 1000000) (h : ¬ keyOk key) : Ret 90 #[.string key] (.tuple #[.pointer none, .int .i64 2]) := by
  intro w
  unfold keyOk at h
  have c1 := Sched.keys_no key hm (by omega)
  clear h
  go_enter Try.func90, Try.ntmps90
  go_wp2_with fail
  refine (c1).calls ?_
  go_wp2_with fail
  go_ret2
  exact ⟨rfl, rfl⟩
set_option maxRecDepth 100000 in
set_option maxHeartbeats 4000000 in
theorem new_yes (key : ByteArray) (n : Nat) (hn : n = 4 ∨ n = 6 ∨ n = 8) (hk : key.size = 4 * n) : MakC 90 #[.string key] (Sched.keysL key.data.toList n) (n + 6) (key.size : Int) := by
  intro w
  have H0 := Lib.hid (Since.refl w)
  have c1 := Sched.keys_yes key n hn hk
  have c2 := tables_mak
  have c3 : Ret 51 #[.int .i64 (key.size : Int)] (.int .i64 ((n : Int) + 6)) := by
    rw [hk]; exact Sched.rounds_yes (4 * n) (by omega) _ (by omega)
  have hl : key.data.toList.length = 4 * n := hk
  have hkl := Sched.keysL_len key.data.toList n
  have hcl := Sched.catw_len key.data.toList n (by omega) hl
  obtain ⟨ks, hks⟩ : ∃ ks, ks = Sched.keysL key.data.toList n := ⟨_, rfl⟩
  have hsz : ∀ i, i < n + 7 → (ks.getD i ⟨#[]⟩).size = 16 := fun i hi => by
    rw [hks]; unfold Sched.keysL Oct.pcs
    simp only [List.getD, List.getElem?_map, List.getElem?_range hi, Option.map_some, Option.getD_some]
    unfold Oct.pc
    rw [size_bs, List.length_take, List.length_drop, hcl]
    omega
  rw [← hks] at c1 hkl ⊢
  obtain ⟨C, hC⟩ : ∃ C, C = tbC := ⟨_, rfl⟩
  rw [← hC] at c2
  obtain ⟨X, hX, hXs, hX0, hX1, hX2, hX3⟩ := builtC C (by rw [hC, tbC_size]) (key.size : Int) ((n : Int) + 6)
  have hXr : ∀ i, i < 2034 → X[i]? = some (cipF ks (key.size : Int) (((n + 6 : Nat)) : Int) 0 i) := fun i hi => by
    by_cases h0 : i < 1792
    · rw [hX0 i h0, cipF_lo _ _ _ _ _ h0, hC, tbC_at i h0]
    · by_cases h1 : i = 1792
      · subst h1; rw [hX1]; rfl
      · by_cases h2 : i = 1793
        · subst h2; rw [hX2]; rfl
        · rw [hX3 i (by omega) hi]
          unfold cipF
          rw [if_neg h0, if_neg h1, if_neg h2, if_neg (by omega)]
  have HBD := Lib.hid hX
  have hKZ : Hid (ks.length = n + 7) := Lib.hid hkl
  clear hX hX0 hX1 hX2 hX3 hks hC hl hcl hkl
  have HXs := Lib.hid hXs
  clear hXs
  have HXr := Lib.hid hXr
  clear hXr
  have Hsz := Lib.hid hsz
  clear hsz
  have Hk := Lib.hid hk
  clear hk
  go_enter Try.func90, Try.ntmps90
  go_wp2_with fail
  refine c1.calls H0.out ?_
  intro v1 w1 ho1 hb1 h1
  have hlen : (((n + 7 : Nat) : Int)) = (n : Int) + 7 := by omega
  obtain ⟨b1, o1, cap1, hv, hlt1, hc1⟩ := Sched.StrsR.form ho1 (by rw [hKZ.out]; omega)
  rw [hKZ.out] at hv
  subst hv
  have HC1 := Lib.hid hc1
  have HL1 := Lib.hid hlt1
  have H1 := Lib.hid h1
  clear h1
  clear hb1 hc1 hlt1 ho1
  have H00 := Lib.hid (Since.refl w1)
  go_wp2_with fail
  refine c2.calls H00.out ?_
  intro w2 h2
  have H2 := Lib.hid h2
  clear h2
  go_wp2_with fail
  refine (c3).calls ?_
  go_wp2_with ((with_reducible refine wpList_build_at (some 23) 117 #[(0, .tmp 17), (1, .tmp 19), (2, .tmp 22)] _ X ?_ HBD.out ?_) <;> try rfl)
  have hrow0 : (w2.alloc (.cells X 117)).rowIs w2.heap.size 117 2034 (cipF ks (key.size : Int) (((n + 6 : Nat)) : Int) 0) := by
    have h := World.rowIs_alloc w2 X 117 _ (fun i hi => HXr.out i (by rw [← HXs.out]; exact hi))
    rw [HXs.out] at h
    exact h
  have HR0 := Lib.hid hrow0
  have HS0 : Hid (Since w1 (w2.alloc (.cells X 117))) := Lib.hid (Since.alloc H2.out _)
  have HG : Hid (w1.heap.size ≤ w2.heap.size) := Lib.hid (Below.size H2.out)
  clear hrow0 c1 c2 c3 HBD HXs HXr
  obtain ⟨g, hg⟩ : ∃ g, g = w2.heap.size := ⟨_, rfl⟩
  obtain ⟨W, hW⟩ : ∃ W, W = w2.alloc (.cells X 117) := ⟨_, rfl⟩
  rw [← hW, ← hg] at HR0
  rw [← hW] at HS0
  rw [← hg] at HG
  rw [← hg, ← hW]
  clear hg hW H2 H00 H0
  go_loopw [27] (fun i wr => ∃ k : Nat, k ≤ n + 7 ∧ i = .int .i64 (k : Int) ∧ Hid (wr.rowIs g 117 2034 (cipF ks (key.size : Int) (((n + 6 : Nat)) : Int) k)) ∧ Hid (Since w1 wr)) (fun i _ => n + 7 - (intOf i).toNat)
  case atStart => exact ⟨0, by omega, rfl, HR0, HS0⟩
  case round =>
    clear HR0 HS0
    obtain ⟨k, hk, rfl, HR, HS⟩ := hrel
    by_cases hlt : k < n + 7
    · have hd : decide ((k : Int) < (n : Int) + 7) = true := decide_eq_true (by omega)
      have hck := (HS.out.below.cell (p := ⟨b1, o1 + k, none⟩) HL1.out).trans (HC1.out k (by rw [hKZ.out]; exact hlt))
      have hsk := Hsz.out k hlt
      obtain ⟨S, hS⟩ : ∃ S, S = ks.getD k ⟨#[]⟩ := ⟨_, rfl⟩
      rw [← hS] at hck hsk
      have hrk : S.data.toList = rk ks k := by rw [hS]; rfl
      obtain ⟨w3, hrun, hrow, hbel⟩ := run_copy_str wr S g 117 (1794 + k * 16) 2034 16 16 3 _ (some ⟨g, 1794 + k * 16, none⟩) HR.out (fun _ => rfl) (by omega) (by omega)
      have HR3 : Hid (w3.rowIs g 117 2034 (cipF ks (key.size : Int) (((n + 6 : Nat)) : Int) (k + 1))) := Lib.hid (hrow.congr fun p _ => by rw [Nat.mul_comm k 16]; exact cip_step ks _ _ k _ hrk hsk p)
      have HS3 : Hid (Since w1 w3) := Lib.hid (hbel _ _ HS.out HG.out)
      have hsl : ∀ w', (Instr.sliceAt 108 (.pointer (some ⟨g, 1794 + k * 16, none⟩)) none none none).run Try.prog w' = .ok (.slice (some ⟨g, 1794 + k * 16, none⟩) 16 16) w' := slice_b _ _
      have i1 : (0 : Int) ≤ (k : Int) := by omega
      have i2 : (k : Int) < (n : Int) + 7 := by omega
      have i3 : (k : Int) < 15 := by omega
      clear hS hrk hrow hbel hsk
      have Hrun := Lib.hid hrun
      clear hrun
      go_wp2_with ((with_reducible refine Lib.wpList_copy_run (P := Try.prog) _ (o := ⟨some 39, _, _, _, _, _⟩) ?_ (.tmp 37) (.tmp 38) 60 9 ?_ _ _ ?_ ?_ Hrun.out ?_) <;> try rfl)
      go_roundw
      case rel => exact ⟨k + 1, by omega, by go_num, HR3, HS3⟩
      case measure => simp [intOf]; omega
    · have hd : decide ((k : Int) < (n : Int) + 7) = false := decide_eq_false (by omega)
      have hC := cip_of_row (n := n + 6) (by rw [show n + 6 + 1 = k from by omega]; exact HR.out) (by omega)
      have HC := Lib.hid hC
      clear hC
      go_wp2_with fail
      go_ret2
      exact ⟨g, rfl, HC.out, Since.step H1.out HS.out⟩
set_option maxRecDepth 100000 in
theorem MakC.calls {f : Nat} {args : Array Value} {ks : List ByteArray} {n : Nat} {len : Int} (h : MakC f args ks n len) {W0 w : World} (hs : Since W0 w) {R : Ending → World → Prop} (k : ∀ c w', Cip w' c ks n len → Since W0 w' → R (.returned (.tuple #[.pointer (some ⟨c, 0, none⟩), .int .i64 0])) w') : Calls Try.prog f args w R :=
  (h w).mono fun _ _ ⟨c, he, hc, hb⟩ => by subst he; exact k c _ hc (hs.step hb)
end Aes
end Go.Proofs.Ytgbfdgopinnlbaa

/- Package aes: its functions on blocks. -/
namespace Go.Proofs.Ytgbfdgopinnlbaa
open Go.RowKit
namespace Aes
open Rnd

/-- a cipher of a key lies in block c -/
def CipK (w : World) (c : Nat) (key : ByteArray) : Prop := keyOk key ∧ Cip w c (Sched.keysL key.data.toList (key.size / 4)) (key.size / 4 + 6) (key.size : Int)
theorem CipK.since {w w' : World} {c : Nat} {key : ByteArray} (h : CipK w c key) (hs : Since w w') : CipK w' c key := ⟨h.1, h.2.since hs⟩
/-- a call that makes a cipher of a key -/
def MakK (f : Nat) (args : Array Value) (key : ByteArray) : Prop := ∀ (W0 w : World) (_ : Since W0 w) (R : Ending → World → Prop) (_ : ∀ c w', CipK w' c key → Since w w' → Since W0 w' → R (.returned (.tuple #[.pointer (some ⟨c, 0, none⟩), .int .i64 0])) w'), Calls Try.prog f args w R
theorem new_key (key : ByteArray) (hk : keyOk key) : MakK 90 #[.string key] key := by
  intro W0 w hs R k
  have hk2 := hk
  unfold keyOk at hk2
  refine (new_yes key (key.size / 4) (by omega) (by omega) w).mono fun e w' ⟨c, he, hc, hb⟩ => ?_
  subst he
  exact k c w' ⟨hk, hc⟩ hb (hs.step hb)
theorem key_ne {key : ByteArray} (hk : keyOk key) : ((key.size : Int) == 0) = false := by
  unfold keyOk at hk
  rw [beq_eq_false_iff_ne]; omega
theorem key_rn {key : ByteArray} (hk : keyOk key) : key.size / 4 + 6 ≤ 14 ∧ 1 ≤ key.size / 4 + 6 := by
  unfold keyOk at hk; omega
set_option maxRecDepth 100000 in
theorem cenc_no (c : Nat) (key b : ByteArray) (hb : b.size ≠ 16) (hm : b.size ≤ 140737488355328) (w : World) (hC : CipK w c key) : Calls Try.prog 88 #[.pointer (some ⟨c, 0, none⟩), .string b] w fun e w' => e = .returned (.tuple #[.string ⟨#[]⟩, .int .i64 4]) ∧ Since w w' :=
  enc_no c _ _ _ (key_ne hC.1) b hb hm w hC.2
set_option maxRecDepth 100000 in
theorem cdec_no (c : Nat) (key b : ByteArray) (hb : b.size ≠ 16) (hm : b.size ≤ 140737488355328) (w : World) (hC : CipK w c key) : Calls Try.prog 98 #[.pointer (some ⟨c, 0, none⟩), .string b] w fun e w' => e = .returned (.tuple #[.string ⟨#[]⟩, .int .i64 4]) ∧ Since w w' :=
  dec_no c _ _ _ (key_ne hC.1) b hb hm w hC.2
set_option maxRecDepth 100000 in
theorem cenc_yes (c : Nat) (key b : ByteArray) (hb : b.size = 16) (X : ByteArray) (hX : X = encK key b) (w : World) (hC : CipK w c key) : Calls Try.prog 88 #[.pointer (some ⟨c, 0, none⟩), .string b] w fun e w' => e = .returned (.tuple #[.string X, .int .i64 0]) ∧ Since w w' :=
  enc_yes c _ _ (key_rn hC.1).1 (key_rn hC.1).2 _ (key_ne hC.1) b hb X hX w hC.2
set_option maxRecDepth 100000 in
theorem cdec_yes (c : Nat) (key b : ByteArray) (hb : b.size = 16) (X : ByteArray) (hX : X = decK key b) (w : World) (hC : CipK w c key) : Calls Try.prog 98 #[.pointer (some ⟨c, 0, none⟩), .string b] w fun e w' => e = .returned (.tuple #[.string X, .int .i64 0]) ∧ Since w w' :=
  dec_yes c _ _ (key_rn hC.1).1 (key_rn hC.1).2 _ (key_ne hC.1) b hb X hX w hC.2
set_option maxRecDepth 100000 in
theorem csize (c : Nat) (key : ByteArray) (w : World) (hC : CipK w c key) : Calls Try.prog 133 #[.pointer (some ⟨c, 0, none⟩)] w fun e w' => e = .returned (.int .i64 (key.size : Int)) ∧ w = w' := size_ret c _ w hC.2.ln
end Aes
end Go.Proofs.Ytgbfdgopinnlbaa

/- Package aes: many blocks. -/
namespace Go.Proofs.Ytgbfdgopinnlbaa
open Go.RowKit
namespace Aes
open Rnd RefAes

end Aes
end Go.Proofs.Ytgbfdgopinnlbaa

/- Package cmac: doubling. -/
namespace Go.Proofs.Ytgbfdgopinnlbaa
open Go.RowKit
namespace Cmac
open Rnd Aes

set_option maxRecDepth 100000 in
/-- a row of bytes as a string, whatever the row's type -/
theorem conv_row (w : World) (b t n : Nat) (f : Nat → Value) (l : List UInt8) (h : w.rowIs b t n f) (hl : l.length = n) (hf : ∀ j, j < n → f j = .int .u8 ((ent l j : Nat) : Int)) :
    (convert 60 9 (.slice (some ⟨b, 0, none⟩) n n)).run Try.prog w = .ok (.string (bs l)) w := by
  have g := run_convert_bytes_arg (P := Try.prog) w 60 5 Try.underlying60 Try.underlying5 b 0 n n (l.map fun c => (c.toNat : Int)) (by rw [List.length_map, hl]) (fun i hi => by
    rw [Nat.zero_add, h.cell hi, hf i hi]
    unfold ent
    simp [List.getD, List.getElem?_eq_getElem (show i < l.length by omega)]) 9 Try.underlying9
  rw [g, nums_bytes]
set_option maxRecDepth 100000 in
theorem slice_16 (b o : Nat) (w : World) : (Instr.sliceAt 107 (.pointer (some ⟨b, o, none⟩)) none none none).run Try.prog w = .ok (.slice (some ⟨b, o, none⟩) 16 16) w := by kernel_rfl
/-- the carry out of byte j -/
def carN (l : List UInt8) (j : Nat) : Nat := if j < 16 then ent l j / 128 else 0
def preN (l : List UInt8) (j : Nat) : Nat := ent l j * 2 % 256 + carN l (j + 1)
def dblN (l : List UInt8) (j : Nat) : Nat := if j = 15 ∧ carN l 0 ≠ 0 then preN l j ^^^ 135 else preN l j
def dblL (l : List UInt8) : List UInt8 := mk16 (dblN l)
theorem carN_lt (l : List UInt8) (j : Nat) : carN l j < 2 := by
  unfold carN
  have := ent_lt l j
  split <;> omega
theorem preN_lt (l : List UInt8) (j : Nat) : preN l j < 256 := by
  unfold preN
  have := carN_lt l (j + 1)
  omega
theorem dblN_lt (l : List UInt8) (j : Nat) : dblN l j < 256 := by
  unfold dblN
  have := preN_lt l j
  split
  · exact Nat.xor_lt_two_pow (n := 8) this (by decide)
  · exact this
theorem dblL_len (l : List UInt8) : (dblL l).length = 16 := mk16_len _
theorem dblL_ent (l : List UInt8) (j : Nat) (h : j < 16) : ent (dblL l) j = dblN l j := mk16_ent _ j h (dblN_lt l j)
theorem or_all : (List.range 256).all (fun x => (List.range 2).all fun c => bits .or .u8 ((x : Int) * 2 % 256) (c : Int) == ((x * 2 % 256 + c : Nat) : Int)) = true := by decide +kernel
theorem or_carry (x c : Nat) (hx : x < 256) (hc : c < 2) : bits .or .u8 ((x : Int) * 2 % 256) (c : Int) = ((x * 2 % 256 + c : Nat) : Int) := by
  have h := or_all
  rw [List.all_eq_true] at h
  have h1 := h x (List.mem_range.2 hx)
  rw [List.all_eq_true] at h1
  have h2 := h1 c (List.mem_range.2 hc)
  rwa [beq_iff_eq] at h2
def dblK (b : ByteArray) : ByteArray := bs (dblL b.data.toList)
theorem dblK_size (b : ByteArray) : (dblK b).size = 16 := by unfold dblK; rw [size_bs, dblL_len]
set_option maxRecDepth 100000 in
theorem double_no (b : ByteArray) (hb : b.size ≠ 16) : Ret 119 #[.string b] (.string ⟨#[]⟩) := by
  intro w
  have hn : ((b.size : Int) == 16) = false := by rw [beq_eq_false_iff_ne]; omega
  have hn2 : ((b.size : Int) != 16) = true := by rw [bne_iff_ne]; omega
  go_enter Try.func119, Try.ntmps119
  go_wp2_with fail
  go_ret
  exact ⟨rfl, rfl⟩
set_option maxRecDepth 100000 in
set_option maxHeartbeats 2000000 in
theorem double_yes (b : ByteArray) (hb : b.size = 16) (X : ByteArray) (hX : X = dblK b) : Mak 119 #[.string b] (.string X) := by
  intro w
  have hn : ((b.size : Int) == 16) = true := by rw [beq_iff_eq]; omega
  have hn2 : ((b.size : Int) != 16) = false := by rw [bne_eq_false_iff_eq]; omega
  obtain ⟨l, hl⟩ : ∃ l, l = b.data.toList := ⟨_, rfl⟩
  have HL := Lib.hid hl
  have HX := Lib.hid hX
  have HB := Lib.hid hb
  clear hb hX hl
  go_enter Try.func119, Try.ntmps119
  go_wp2_with fail
  go_loopw [4, 5] (fun c i wr => ∃ (k : Nat) (x : Int), k ≤ 16 ∧ i = .int .i64 x ∧ Hid (x = (k : Int) - 1) ∧ c = .int .u8 ((carN l k : Nat) : Int) ∧ Hid (wr.rowIs w.heap.size 107 16 (fun p => if k ≤ p then .int .u8 ((preN l p : Nat) : Int) else .int .u8 0)) ∧ Hid (Since w wr)) (fun _ i _ => (intOf i + 1).toNat)
  case atStart =>
    refine ⟨16, 15, by omega, rfl, Lib.hid rfl, rfl, Lib.hid ?_, Lib.hid ((Since.refl w).alloc _)⟩
    exact (zrow w 107 Z16 rfl z16).congr fun j hj => by rw [if_neg (by omega)]
  case round =>
    obtain ⟨k, x, hk, rfl, HXX, rfl, HR, HS⟩ := hrel
    by_cases hk0 : k = 0
    · obtain rfl : x = -1 := by have := HXX.out; omega
      subst hk0
      obtain ⟨c0, hc0⟩ : ∃ c, c = carN l 0 := ⟨_, rfl⟩
      rw [← hc0]
      have hsl : ∀ w', (Instr.sliceAt 107 (.pointer (some ⟨w.heap.size, 0, none⟩)) none none none).run Try.prog w' = .ok (.slice (some ⟨w.heap.size, 0, none⟩) 16 16) w' := slice_16 _ _
      have HR2 := Lib.hid (HR.out.congr (g := fun p => .int .u8 ((preN l p : Nat) : Int)) fun p _ => by rw [if_pos (Nat.zero_le _)])
      by_cases hc : c0 = 0
      · have t1 : ((c0 : Int) != 0) = false := by rw [bne_eq_false_iff_eq]; omega
        have hcv := conv_row wr w.heap.size 107 16 _ (dblL l) HR2.out (dblL_len l) (fun j hj => by
          rw [dblL_ent l j hj]
          unfold dblN
          rw [if_neg (by rw [← hc0]; omega)])
        have e : bs (dblL l) = X := by rw [HX.out, dblK, HL.out]
        rw [e] at hcv
        clear hc hc0
        go_wp2_with fail
        go_ret
        exact ⟨rfl, HS.out⟩
      · have t1 : ((c0 : Int) != 0) = true := by rw [bne_iff_ne]; omega
        have hcl := HR2.out.cell (i := 15) (by decide)
        have hf := HR2.out.frozen 15
        have hp := preN_lt l 15
        obtain ⟨p, hpe⟩ : ∃ p, p = preN l 15 := ⟨_, rfl⟩
        rw [← hpe] at hcl hp
        have hxo : bits .xor .u8 (p : Int) 135 = ((p ^^^ 135 : Nat) : Int) := u8_xor_nat p 135 hp (by decide)
        have hcv := conv_row (wr.setCell ⟨w.heap.size, 15, none⟩ (.int .u8 ((p ^^^ 135 : Nat) : Int))) w.heap.size 107 16 _ (dblL l) (HR2.out.set 15 _) (dblL_len l) (fun j hj => by
          rw [dblL_ent l j hj]
          unfold dblN
          by_cases h : j = 15
          · rw [if_pos h, if_pos ⟨h, by rw [← hc0]; exact hc⟩, h, hpe]
          · rw [if_neg h, if_neg (fun h2 => h h2.1)])
        have e : bs (dblL l) = X := by rw [HX.out, dblK, HL.out]
        rw [e] at hcv
        clear hc hc0 hpe
        go_wp2_with fail
        go_ret
        exact ⟨rfl, Below.setCell (p := ⟨w.heap.size, 15, none⟩) HS.out (Nat.le_refl _) _⟩
    · obtain ⟨m, hm⟩ : ∃ m, k = m + 1 := ⟨k - 1, by omega⟩
      obtain rfl : x = (m : Int) := by have := HXX.out; omega
      have hm16 : m < 16 := by omega
      have hks : m < b.size := by have := HB.out; omega
      have hd : decide ((0 : Int) ≤ (m : Int)) = true := decide_eq_true (by omega)
      obtain ⟨o, hcl⟩ : ∃ o, wr.cell? ⟨w.heap.size, m, none⟩ = some o := ⟨_, HR.out.cell (i := m) hm16⟩
      have hf := HR.out.frozen m
      obtain ⟨c0, hc0⟩ : ∃ c, c = carN l k := ⟨_, rfl⟩
      rw [← hc0]
      have i1 : (0 : Int) ≤ (m : Int) := by omega
      have i2 : (m : Int) < 16 := by omega
      have i3 : (m : Int) < (b.size : Int) := by omega
      have Hm := Lib.hid hm
      clear hm
      have Hc0 := Lib.hid hc0
      clear hc0
      clear hk0
      go_wp2_with fail
      go_roundw
      case rel =>
        have hs := ent_s b m hks
        rw [← HL.out] at hs
        refine ⟨m, (m : Int) - 1, by omega, rfl, Lib.hid rfl, ?_, Lib.hid ((HR.out.set m _).congr fun p hp => ?_), Lib.hid (Below.setCell (p := ⟨w.heap.size, m, none⟩) HS.out (Nat.le_refl _) _)⟩
        · unfold carN
          rw [if_pos hm16, hs]; rfl
        · have hmm := Hm.out
          by_cases h : p = m
          · rw [if_pos h, if_pos (by omega), h, ← hs]
            have h9 := or_carry (ent l m) c0 (ent_lt _ _) (by rw [Hc0.out]; exact carN_lt _ _)
            rw [h9, Hc0.out, hmm]; rfl
          · rw [if_neg h]
            by_cases h3 : k ≤ p
            · rw [if_pos h3, if_pos (by omega)]
            · rw [if_neg h3, if_neg (by omega)]
      case measure => simp [intOf]
end Cmac
end Go.Proofs.Ytgbfdgopinnlbaa

/- The reference of cmac: doubling. -/
namespace Go.Proofs.Ytgbfdgopinnlbaa
open Go.RowKit
namespace RefCmac
open Rnd Aes Cmac

set_option maxRecDepth 100000 in
theorem double_no (b : ByteArray) (hb : b.size ≠ 16) : Ret 97 #[.string b] (.string ⟨#[]⟩) := by
  intro w
  have hn : ((b.size : Int) == 16) = false := by rw [beq_eq_false_iff_ne]; omega
  have hn2 : ((b.size : Int) != 16) = true := by rw [bne_iff_ne]; omega
  go_enter Try.func97, Try.ntmps97
  go_wp2_with fail
  go_ret
  exact ⟨rfl, rfl⟩
set_option maxRecDepth 100000 in
set_option maxHeartbeats 2000000 in
theorem double_yes (b : ByteArray) (hb : b.size = 16) (X : ByteArray) (hX : X = dblK b) : Mak 97 #[.string b] (.string X) := by
  intro w
  have hn : ((b.size : Int) == 16) = true := by rw [beq_iff_eq]; omega
  have hn2 : ((b.size : Int) != 16) = false := by rw [bne_eq_false_iff_eq]; omega
  obtain ⟨l, hl⟩ : ∃ l, l = b.data.toList := ⟨_, rfl⟩
  have HL := Lib.hid hl
  have HX := Lib.hid hX
  have HB := Lib.hid hb
  clear hb hX hl
  go_enter Try.func97, Try.ntmps97
  go_wp2_with fail
  go_loopw [4, 5] (fun c i wr => ∃ (k : Nat) (x : Int), k ≤ 16 ∧ i = .int .i64 x ∧ Hid (x = (k : Int) - 1) ∧ c = .int .i64 ((carN l k : Nat) : Int) ∧ Hid (wr.rowIs w.heap.size 107 16 (fun p => if k ≤ p then .int .u8 ((preN l p : Nat) : Int) else .int .u8 0)) ∧ Hid (Since w wr)) (fun _ i _ => (intOf i + 1).toNat)
  case atStart =>
    refine ⟨16, 15, by omega, rfl, Lib.hid rfl, rfl, Lib.hid ?_, Lib.hid ((Since.refl w).alloc _)⟩
    exact (zrow w 107 Z16 rfl z16).congr fun j hj => by rw [if_neg (by omega)]
  case round =>
    obtain ⟨k, x, hk, rfl, HXX, rfl, HR, HS⟩ := hrel
    by_cases hk0 : k = 0
    · obtain rfl : x = -1 := by have := HXX.out; omega
      subst hk0
      obtain ⟨c0, hc0⟩ : ∃ c, c = carN l 0 := ⟨_, rfl⟩
      rw [← hc0]
      have hsl : ∀ w', (Instr.sliceAt 107 (.pointer (some ⟨w.heap.size, 0, none⟩)) none none none).run Try.prog w' = .ok (.slice (some ⟨w.heap.size, 0, none⟩) 16 16) w' := slice_16 _ _
      have HR2 := Lib.hid (HR.out.congr (g := fun p => .int .u8 ((preN l p : Nat) : Int)) fun p _ => by rw [if_pos (Nat.zero_le _)])
      by_cases hc : c0 = 0
      · have t1 : ((c0 : Int) == 1) = false := by rw [beq_eq_false_iff_ne]; omega
        have hcv := conv_row wr w.heap.size 107 16 _ (dblL l) HR2.out (dblL_len l) (fun j hj => by
          rw [dblL_ent l j hj]
          unfold dblN
          rw [if_neg (by rw [← hc0]; omega)])
        have e : bs (dblL l) = X := by rw [HX.out, dblK, HL.out]
        rw [e] at hcv
        clear hc hc0
        go_wp2_with fail
        go_ret
        exact ⟨rfl, HS.out⟩
      · have t1 : ((c0 : Int) == 1) = true := by have := carN_lt l 0; rw [beq_iff_eq]; omega
        have hcl := HR2.out.cell (i := 15) (by decide)
        have hf := HR2.out.frozen 15
        have hp := preN_lt l 15
        obtain ⟨p, hpe⟩ : ∃ p, p = preN l 15 := ⟨_, rfl⟩
        rw [← hpe] at hcl hp
        have hxo : bits .xor .u8 (p : Int) 135 = ((p ^^^ 135 : Nat) : Int) := u8_xor_nat p 135 hp (by decide)
        have hcv := conv_row (wr.setCell ⟨w.heap.size, 15, none⟩ (.int .u8 ((p ^^^ 135 : Nat) : Int))) w.heap.size 107 16 _ (dblL l) (HR2.out.set 15 _) (dblL_len l) (fun j hj => by
          rw [dblL_ent l j hj]
          unfold dblN
          by_cases h : j = 15
          · rw [if_pos h, if_pos ⟨h, by rw [← hc0]; exact hc⟩, h, hpe]
          · rw [if_neg h, if_neg (fun h2 => h h2.1)])
        have e : bs (dblL l) = X := by rw [HX.out, dblK, HL.out]
        rw [e] at hcv
        clear hc hc0 hpe
        go_wp2_with fail
        go_ret
        exact ⟨rfl, Below.setCell (p := ⟨w.heap.size, 15, none⟩) HS.out (Nat.le_refl _) _⟩
    · obtain ⟨m, hm⟩ : ∃ m, k = m + 1 := ⟨k - 1, by omega⟩
      obtain rfl : x = (m : Int) := by have := HXX.out; omega
      have hm16 : m < 16 := by omega
      have hks : m < b.size := by have := HB.out; omega
      have hd : decide ((0 : Int) ≤ (m : Int)) = true := decide_eq_true (by omega)
      obtain ⟨o, hcl⟩ : ∃ o, wr.cell? ⟨w.heap.size, m, none⟩ = some o := ⟨_, HR.out.cell (i := m) hm16⟩
      have hf := HR.out.frozen m
      obtain ⟨c0, hc0⟩ : ∃ c, c = carN l k := ⟨_, rfl⟩
      rw [← hc0]
      have i1 : (0 : Int) ≤ (m : Int) := by omega
      have i2 : (m : Int) < 16 := by omega
      have i3 : (m : Int) < (b.size : Int) := by omega
      have hx9 : (b[m].toNat : Int) < 256 := by have := b[m].toNat_lt; omega
      have hx8 : (0 : Int) ≤ (b[m].toNat : Int) := by omega
      have hc9 : (c0 : Int) < 2 := by have := carN_lt l k; omega
      have Hm := Lib.hid hm
      clear hm
      have Hc0 := Lib.hid hc0
      clear hc0
      clear hk0
      go_wp2_with fail
      go_roundw
      case rel =>
        have hs := ent_s b m hks
        rw [← HL.out] at hs
        have h0 := Hc0.out
        have hmm := Hm.out
        refine ⟨m, (m : Int) - 1, by omega, rfl, Lib.hid rfl, ?_, Lib.hid ((HR.out.set m _).congr fun p hp => ?_), Lib.hid (Below.setCell (p := ⟨w.heap.size, m, none⟩) HS.out (Nat.le_refl _) _)⟩
        · unfold carN
          rw [if_pos hm16, hs]
          congr 1
          omega
        · by_cases h : p = m
          · rw [if_pos h, if_pos (by omega), h]
            unfold preN
            rw [hs, ← hmm, ← h0]
            congr 1
            omega
          · rw [if_neg h]
            by_cases h3 : k ≤ p
            · rw [if_pos h3, if_pos (by omega)]
            · rw [if_neg h3, if_neg (by omega)]
      case measure => simp [intOf]
end RefCmac
end Go.Proofs.Ytgbfdgopinnlbaa

/- Package cbc: chains of blocks. -/
namespace Go.Proofs.Ytgbfdgopinnlbaa
open Go.RowKit
namespace Cbc
open Rnd Aes RefAes

/-- the block ahead of block k, of a chain -/
def prevE (f : ByteArray → ByteArray) (iv : ByteArray) (l : List UInt8) : Nat → ByteArray
  | 0 => iv
  | k + 1 => f (Sched.xorS (Oct.pc l 16 k) (prevE f iv l k))
def chainE (f : ByteArray → ByteArray) (iv : ByteArray) (l : List UInt8) : Nat → List UInt8
  | 0 => []
  | k + 1 => chainE f iv l k ++ (prevE f iv l (k + 1)).data.toList
def prevD (iv : ByteArray) (l : List UInt8) : Nat → ByteArray
  | 0 => iv
  | k + 1 => Oct.pc l 16 k
def chainD (f : ByteArray → ByteArray) (iv : ByteArray) (l : List UInt8) : Nat → List UInt8
  | 0 => []
  | k + 1 => chainD f iv l k ++ (Sched.xorS (f (Oct.pc l 16 k)) (prevD iv l k)).data.toList
theorem prevE_size (f : ByteArray → ByteArray) (hf : ∀ b, (f b).size = 16) (iv : ByteArray) (hiv : iv.size = 16) (l : List UInt8) (k : Nat) : (prevE f iv l k).size = 16 := by
  cases k with
  | zero => exact hiv
  | succ k => exact hf _
theorem chainE_len (f : ByteArray → ByteArray) (hf : ∀ b, (f b).size = 16) (iv : ByteArray) (l : List UInt8) (k : Nat) : (chainE f iv l k).length = 16 * k := by
  induction k with
  | zero => rfl
  | succ k ih =>
    rw [chainE, List.length_append, ih]
    have : (prevE f iv l (k + 1)).data.toList.length = 16 := hf _
    omega
theorem pc_size (l : List UInt8) (k : Nat) (h : 16 * k + 16 ≤ l.length) : (Oct.pc l 16 k).size = 16 := by
  unfold Oct.pc
  rw [size_bs, List.length_take, List.length_drop]; omega
theorem prevD_size (iv : ByteArray) (hiv : iv.size = 16) (l : List UInt8) (k : Nat) (h : 16 * k ≤ l.length) : (prevD iv l k).size = 16 := by
  cases k with
  | zero => exact hiv
  | succ k => exact pc_size l k (by omega)
theorem chainD_len (f : ByteArray → ByteArray) (hf : ∀ b, (f b).size = 16) (iv : ByteArray) (hiv : iv.size = 16) (l : List UInt8) (k : Nat) (h : 16 * k ≤ l.length) : (chainD f iv l k).length = 16 * k := by
  induction k with
  | zero => rfl
  | succ k ih =>
    rw [chainD, List.length_append, ih (by omega)]
    have h1 : (Sched.xorS (f (Oct.pc l 16 k)) (prevD iv l k)).data.toList.length = 16 := by
      show (Sched.xorS (f (Oct.pc l 16 k)) (prevD iv l k)).size = 16
      rw [Sched.xorS_size, hf, prevD_size iv hiv l k (by omega)]; rfl
    omega
def encC (key iv s : ByteArray) : ByteArray := bs (chainE (encK key) iv s.data.toList (s.size / 16))
def decC (key iv s : ByteArray) : ByteArray := bs (chainD (decK key) iv s.data.toList (s.size / 16))
theorem xor16_size (a b : ByteArray) (ha : a.size = 16) (hb : b.size = 16) : (Sched.xorS a b).size = 16 := by rw [Sched.xorS_size, ha, hb]; rfl

set_option maxRecDepth 100000 in
theorem begin_nokey (key iv s : ByteArray) (hm : key.size ≤ 1000000) (hk : ¬ keyOk key) : Ret 87 #[.string key, .string iv, .string s] (.tuple #[.pointer none, .int .i64 2]) := by
  intro w
  have c1 := new_no key hm hk
  clear hk
  go_enter Try.func87, Try.ntmps87
  go_wp2_with fail
  refine (c1).calls ?_
  go_wp2_with fail
  go_ret2
  exact ⟨rfl, rfl⟩
set_option maxRecDepth 100000 in
theorem begin_noiv (key iv s : ByteArray) (hk : keyOk key) (hi : iv.size ≠ 16) : Mak 87 #[.string key, .string iv, .string s] (.tuple #[.pointer none, .int .i64 1]) := by
  intro w
  have H0 := Lib.hid (Since.refl w)
  have c1 := new_key key hk
  have t1 := (show ((iv.size : Int) == 16) = false by rw [beq_eq_false_iff_ne]; omega)
  have t2 := (show ((iv.size : Int) != 16) = true by rw [bne_iff_ne]; omega)
  clear hk hi
  go_enter Try.func87, Try.ntmps87
  go_wp2_with fail
  refine c1 _ _ H0.out _ ?_
  intro c w1 hC _ h1
  have H1 := Lib.hid h1
  clear hC h1
  go_wp2_with fail
  go_ret2
  exact ⟨rfl, H1.out⟩
set_option maxRecDepth 100000 in
theorem begin_nosize (key iv s : ByteArray) (hk : keyOk key) (hi : iv.size = 16) (hs : s.size % 16 ≠ 0) : Mak 87 #[.string key, .string iv, .string s] (.tuple #[.pointer none, .int .i64 4]) := by
  intro w
  have H0 := Lib.hid (Since.refl w)
  have c1 := new_key key hk
  have t1 : ((iv.size : Int) == 16) = true := by rw [beq_iff_eq]; omega
  have t2 : ((iv.size : Int) != 16) = false := by rw [bne_eq_false_iff_eq]; omega
  have t3 : ((s.size : Int) % 16 == 0) = false := by rw [beq_eq_false_iff_ne]; omega
  have t4 : ((s.size : Int) % 16 != 0) = true := by rw [bne_iff_ne]; omega
  clear hk hi hs
  go_enter Try.func87, Try.ntmps87
  go_wp2_with fail
  refine c1 _ _ H0.out _ ?_
  intro c w1 hC _ h1
  have H1 := Lib.hid h1
  clear hC h1
  go_wp2_with fail
  go_ret2
  exact ⟨rfl, H1.out⟩
set_option maxRecDepth 100000 in
theorem begin_yes (key iv s : ByteArray) (hk : keyOk key) (hi : iv.size = 16) (hs : s.size % 16 = 0) : MakK 87 #[.string key, .string iv, .string s] key := by
  intro W0 w hs0 R kR
  have H0 := Lib.hid hs0
  have KR := Lib.hid kR
  have HS := Lib.hid (Since.refl w)
  refine Calls.mono (R := fun e w' => ∃ c : Nat, e = .returned (.tuple #[.pointer (some ⟨c, 0, none⟩), .int .i64 0]) ∧ CipK w' c key ∧ Since w w') ?_ fun e w' ⟨c, he, hc, h⟩ => by subst he; exact KR.out c w' hc h (H0.out.step h)
  have c1 := new_key key hk
  have t1 : ((iv.size : Int) == 16) = true := by rw [beq_iff_eq]; omega
  have t2 : ((iv.size : Int) != 16) = false := by rw [bne_eq_false_iff_eq]; omega
  have t3 : ((s.size : Int) % 16 == 0) = true := by rw [beq_iff_eq]; omega
  have t4 : ((s.size : Int) % 16 != 0) = false := by rw [bne_eq_false_iff_eq]; omega
  clear hk hi hs hs0 kR
  go_enter Try.func87, Try.ntmps87
  go_wp2_with fail
  refine c1 _ _ HS.out _ ?_
  intro c w1 hC _ h1
  have H1 := Lib.hid h1
  have HC := Lib.hid hC
  clear hC h1
  go_wp2_with fail
  go_ret2
  exact ⟨c, rfl, HC.out, H1.out⟩
set_option maxRecDepth 100000 in
theorem enc_nokey (key iv s : ByteArray) (hm : key.size ≤ 1000000) (hk : ¬ keyOk key) : Mak 55 #[.string key, .string iv, .string s] (.tuple #[.string ⟨#[]⟩, .int .i64 2]) := by
  intro w
  have H0 := Lib.hid (Since.refl w)
  have c1 : Mak 87 #[.string key, .string iv, .string s] (.tuple #[.pointer none, .int .i64 2]) := (begin_nokey key iv s hm hk).mak
  clear hk
  go_enter Try.func55, Try.ntmps55
  go_wp2_with fail
  refine c1.calls H0.out ?_
  intro w1 h1
  have H1 := Lib.hid h1
  clear h1
  go_wp2_with fail
  go_ret2
  exact ⟨rfl, H1.out⟩
set_option maxRecDepth 100000 in
theorem enc_noiv (key iv s : ByteArray) (hk : keyOk key) (hi : iv.size ≠ 16) : Mak 55 #[.string key, .string iv, .string s] (.tuple #[.string ⟨#[]⟩, .int .i64 1]) := by
  intro w
  have H0 := Lib.hid (Since.refl w)
  have c1 : Mak 87 #[.string key, .string iv, .string s] (.tuple #[.pointer none, .int .i64 1]) := begin_noiv key iv s hk hi
  clear hk
  go_enter Try.func55, Try.ntmps55
  go_wp2_with fail
  refine c1.calls H0.out ?_
  intro w1 h1
  have H1 := Lib.hid h1
  clear h1
  go_wp2_with fail
  go_ret2
  exact ⟨rfl, H1.out⟩
set_option maxRecDepth 100000 in
theorem enc_nosize (key iv s : ByteArray) (hk : keyOk key) (hi : iv.size = 16) (hs : s.size % 16 ≠ 0) : Mak 55 #[.string key, .string iv, .string s] (.tuple #[.string ⟨#[]⟩, .int .i64 4]) := by
  intro w
  have H0 := Lib.hid (Since.refl w)
  have c1 : Mak 87 #[.string key, .string iv, .string s] (.tuple #[.pointer none, .int .i64 4]) := begin_nosize key iv s hk hi hs
  clear hk
  go_enter Try.func55, Try.ntmps55
  go_wp2_with fail
  refine c1.calls H0.out ?_
  intro w1 h1
  have H1 := Lib.hid h1
  clear h1
  go_wp2_with fail
  go_ret2
  exact ⟨rfl, H1.out⟩
set_option maxRecDepth 100000 in
theorem dec_nokey (key iv s : ByteArray) (hm : key.size ≤ 1000000) (hk : ¬ keyOk key) : Mak 68 #[.string key, .string iv, .string s] (.tuple #[.string ⟨#[]⟩, .int .i64 2]) := by
  intro w
  have H0 := Lib.hid (Since.refl w)
  have c1 : Mak 87 #[.string key, .string iv, .string s] (.tuple #[.pointer none, .int .i64 2]) := (begin_nokey key iv s hm hk).mak
  clear hk
  go_enter Try.func68, Try.ntmps68
  go_wp2_with fail
  refine c1.calls H0.out ?_
  intro w1 h1
  have H1 := Lib.hid h1
  clear h1
  go_wp2_with fail
  go_ret2
  exact ⟨rfl, H1.out⟩
set_option maxRecDepth 100000 in
theorem dec_noiv (key iv s : ByteArray) (hk : keyOk key) (hi : iv.size ≠ 16) : Mak 68 #[.string key, .string iv, .string s] (.tuple #[.string ⟨#[]⟩, .int .i64 1]) := by
  intro w
  have H0 := Lib.hid (Since.refl w)
  have c1 : Mak 87 #[.string key, .string iv, .string s] (.tuple #[.pointer none, .int .i64 1]) := begin_noiv key iv s hk hi
  clear hk
  go_enter Try.func68, Try.ntmps68
  go_wp2_with fail
  refine c1.calls H0.out ?_
  intro w1 h1
  have H1 := Lib.hid h1
  clear h1
  go_wp2_with fail
  go_ret2
  exact ⟨rfl, H1.out⟩
set_option maxRecDepth 100000 in
theorem dec_nosize (key iv s : ByteArray) (hk : keyOk key) (hi : iv.size = 16) (hs : s.size % 16 ≠ 0) : Mak 68 #[.string key, .string iv, .string s] (.tuple #[.string ⟨#[]⟩, .int .i64 4]) := by
  intro w
  have H0 := Lib.hid (Since.refl w)
  have c1 : Mak 87 #[.string key, .string iv, .string s] (.tuple #[.pointer none, .int .i64 4]) := begin_nosize key iv s hk hi hs
  clear hk
  go_enter Try.func68, Try.ntmps68
  go_wp2_with fail
  refine c1.calls H0.out ?_
  intro w1 h1
  have H1 := Lib.hid h1
  clear h1
  go_wp2_with fail
  go_ret2
  exact ⟨rfl, H1.out⟩
set_option maxRecDepth 100000 in
set_option maxHeartbeats 2000000 in
theorem enc_yes (key iv s : ByteArray) (hk : keyOk key) (hi : iv.size = 16) (hs : s.size % 16 = 0) (hm : s.size ≤ 1000000) (X : ByteArray) (hX : X = encC key iv s) : Mak 55 #[.string key, .string iv, .string s] (.tuple #[.string X, .int .i64 0]) := by
  intro w
  have c1 := begin_yes key iv s hk hi hs
  have H0 := Lib.hid (Since.refl w)
  have hmk := Oct.make_row s.size (by omega)
  have HX := Lib.hid hX
  have HM := Lib.hid hs
  have HI := Lib.hid hi
  clear hk hX hs hi
  go_enter Try.func55, Try.ntmps55
  go_wp2_with fail
  refine c1 _ _ H0.out _ ?_
  intro c w1 hC _ h1
  have HC := Lib.hid hC
  have H1 := Lib.hid h1
  have HR0 := Lib.hid (Oct.made_row s.size w1)
  have HS0 := Lib.hid (Since.alloc (Since.refl w1) (.cells (madeCells #[.int .u8 0] s.size) 5))
  clear hC h1
  go_wp2_with fail
  obtain ⟨g, hg⟩ : ∃ g, g = w1.heap.size := ⟨_, rfl⟩
  rw [← hg] at HR0 ⊢
  have HG : Hid (w1.heap.size ≤ g) := Lib.hid (by omega)
  clear hg hmk
  go_loopw [11, 12] (fun p i wr => ∃ (a k : Nat) (V : ByteArray), i = .int .i64 (a : Int) ∧ p = .string V ∧ Hid (a = 16 * k) ∧ a ≤ s.size ∧ Hid (V = prevE (encK key) iv s.data.toList k) ∧ Hid (wr.rowIs g 5 s.size (Oct.rowF (chainE (encK key) iv s.data.toList k))) ∧ Hid (Since w1 wr)) (fun _ i _ => s.size - (intOf i).toNat)
  case atStart => exact ⟨0, 0, iv, rfl, rfl, Lib.hid rfl, Nat.zero_le _, Lib.hid rfl, HR0, HS0⟩
  case round =>
    clear HR0 HS0
    obtain ⟨a, k, V, rfl, rfl, HA, ha, HV, HR, HS⟩ := hrel
    by_cases hlt : a < s.size
    · have hd : decide ((a : Int) < (s.size : Int)) = true := decide_eq_true (by omega)
      have hak : a + 16 ≤ s.size := by have := HA.out; have := HM.out; omega
      have hp := pc_16 s k (by have := HA.out; omega)
      obtain ⟨P, hP⟩ : ∃ P, P = Oct.pc s.data.toList 16 k := ⟨_, rfl⟩
      rw [← hP] at hp
      have hVs : V.size = 16 := by rw [HV.out]; exact prevE_size _ (encK_size key) _ HI.out _ _
      obtain ⟨Z, hZ⟩ : ∃ Z, Z = Sched.xorS P V := ⟨_, rfl⟩
      have hZs : Z.size = 16 := by rw [hZ]; exact xor16_size _ _ hp hVs
      obtain ⟨Y, hY⟩ : ∃ Y, Y = encK key Z := ⟨_, rfl⟩
      have hYs : Y.size = 16 := by rw [hY]; exact encK_size key Z
      have hYp : Y = prevE (encK key) iv s.data.toList (k + 1) := by rw [hY, hZ, hP, HV.out]; rfl
      have c0 : Ret 86 #[.string s, .int .i64 (a : Int), .int .i64 16] (.string P) := fun w => by
        have h := Oct.cut_yes s a 16 w (by omega) (by decide) hlt (by decide)
        rw [HA.out] at h
        rw [hP, HA.out]; exact h
      have c3 := Sched.xor_m P V (by omega) (by omega) Z hZ
      have c2 := fun w' (h : Since w1 w') => cenc_yes c key Z hZs Y hY w' (HC.out.since h)
      have hrw : chainE (encK key) iv s.data.toList (k + 1) = chainE (encK key) iv s.data.toList k ++ Y.data.toList := by rw [chainE, hYp]
      have hll : (chainE (encK key) iv s.data.toList k).length = a := by rw [chainE_len _ (encK_size key), HA.out]
      have i1 : (0 : Int) ≤ (a : Int) := by omega
      have i2 : (a : Int) ≤ (s.size : Int) := by omega
      clear hp hP hY hVs hZ hZs
      have H_c2 := Lib.hid c2
      clear c2
      have Hrw := Lib.hid hrw
      clear hrw
      have Hll := Lib.hid hll
      clear hll
      have HYs := Lib.hid hYs
      clear hYs
      have HYp := Lib.hid hYp
      clear hYp
      go_wp2_with fail
      have HF := Lib.hid (Since.refl wr)
      refine (c0).calls ?_
      go_wp2_with fail
      refine c3.calls HF.out ?_
      intro w2 h2
      have H2 := Lib.hid h2
      clear h2
      go_wp2_with fail
      refine (H_c2.out _ (Since.step HS.out H2.out)).mono ?_
      rintro e w3 ⟨rfl, h3⟩
      have hS3 := Since.step H2.out h3
      have hR3 := HR.out.of_block (hS3.below.block g HR.out.lt)
      have hS3' := Since.step HS.out hS3
      obtain ⟨w4, hrun, hrow, hbel⟩ := run_copy_str w3 Y g 5 a s.size (s.size - a) (s.size - a) 3 _ (some ⟨g, a, none⟩) hR3 (fun _ => rfl) (by have := HYs.out; omega) (by have := HYs.out; omega)
      have HR4 : Hid (w4.rowIs g 5 s.size (Oct.rowF (chainE (encK key) iv s.data.toList (k + 1)))) := Lib.hid (hrow.congr fun j _ => by
        have h9 := Oct.rowF_put (chainE (encK key) iv s.data.toList k) Y.data.toList j
        rw [Hll.out, ← Hrw.out] at h9
        exact h9)
      have HS4 : Hid (Since w1 w4) := Lib.hid (hbel _ _ hS3' HG.out)
      clear h3 hR3 hS3 hS3' hrow hbel
      have Hrun := Lib.hid hrun
      clear hrun
      go_wp2_with ((with_reducible refine Lib.wpList_copy_run (P := Try.prog) _ (o := ⟨some 50, _, _, _, _, _⟩) ?_ (.tmp 48) (.tmp 49) 60 9 ?_ _ _ ?_ ?_ Hrun.out ?_) <;> try rfl)
      go_roundw
      case rel => exact ⟨a + 16, k + 1, Y, by go_num, rfl, Lib.hid (by have := HA.out; omega), hak, HYp, HR4, HS4⟩
      case measure => simp [intOf]; omega
    · have hd : decide ((a : Int) < (s.size : Int)) = false := decide_eq_false (by omega)
      have hcv := Oct.row_str wr g s.size s.size _ HR.out (by rw [chainE_len _ (encK_size key)]; have := HA.out; omega)
      have e : bs (chainE (encK key) iv s.data.toList k) = X := by
        rw [HX.out, encC, show s.size / 16 = k from by have := HA.out; omega]
      rw [e] at hcv
      go_wp2_with fail
      go_ret2
      exact ⟨rfl, Since.step H1.out HS.out⟩
set_option maxRecDepth 100000 in
set_option maxHeartbeats 2000000 in
theorem dec_yes (key iv s : ByteArray) (hk : keyOk key) (hi : iv.size = 16) (hs : s.size % 16 = 0) (hm : s.size ≤ 1000000) (X : ByteArray) (hX : X = decC key iv s) : Mak 68 #[.string key, .string iv, .string s] (.tuple #[.string X, .int .i64 0]) := by
  intro w
  have c1 := begin_yes key iv s hk hi hs
  have H0 := Lib.hid (Since.refl w)
  have hmk := Oct.make_row s.size (by omega)
  have HX := Lib.hid hX
  have HM := Lib.hid hs
  have HI := Lib.hid hi
  clear hk hX hs hi
  go_enter Try.func68, Try.ntmps68
  go_wp2_with fail
  refine c1 _ _ H0.out _ ?_
  intro c w1 hC _ h1
  have HC := Lib.hid hC
  have H1 := Lib.hid h1
  have HR0 := Lib.hid (Oct.made_row s.size w1)
  have HS0 := Lib.hid (Since.alloc (Since.refl w1) (.cells (madeCells #[.int .u8 0] s.size) 5))
  clear hC h1
  go_wp2_with fail
  obtain ⟨g, hg⟩ : ∃ g, g = w1.heap.size := ⟨_, rfl⟩
  rw [← hg] at HR0 ⊢
  have HG : Hid (w1.heap.size ≤ g) := Lib.hid (by omega)
  clear hg hmk
  go_loopw [11, 12] (fun p i wr => ∃ (a k : Nat) (V : ByteArray), i = .int .i64 (a : Int) ∧ p = .string V ∧ Hid (a = 16 * k) ∧ a ≤ s.size ∧ Hid (V = prevD iv s.data.toList k) ∧ Hid (wr.rowIs g 5 s.size (Oct.rowF (chainD (decK key) iv s.data.toList k))) ∧ Hid (Since w1 wr)) (fun _ i _ => s.size - (intOf i).toNat)
  case atStart => exact ⟨0, 0, iv, rfl, rfl, Lib.hid rfl, Nat.zero_le _, Lib.hid rfl, HR0, HS0⟩
  case round =>
    clear HR0 HS0
    obtain ⟨a, k, V, rfl, rfl, HA, ha, HV, HR, HS⟩ := hrel
    have hsl : s.data.toList.length = s.size := rfl
    have hll : (chainD (decK key) iv s.data.toList k).length = a := by
      rw [chainD_len _ (decK_size key) iv HI.out _ _ (by have := HA.out; omega), HA.out]
    by_cases hlt : a < s.size
    · have hd : decide ((a : Int) < (s.size : Int)) = true := decide_eq_true (by omega)
      have hak : a + 16 ≤ s.size := by have := HA.out; have := HM.out; omega
      have hp := pc_16 s k (by have := HA.out; omega)
      obtain ⟨P, hP⟩ : ∃ P, P = Oct.pc s.data.toList 16 k := ⟨_, rfl⟩
      rw [← hP] at hp
      have hVs : V.size = 16 := by rw [HV.out]; exact prevD_size _ HI.out _ _ (by have := HA.out; omega)
      obtain ⟨Z, hZ⟩ : ∃ Z, Z = decK key P := ⟨_, rfl⟩
      have hZs : Z.size = 16 := by rw [hZ]; exact decK_size key P
      obtain ⟨Y, hY⟩ : ∃ Y, Y = Sched.xorS Z V := ⟨_, rfl⟩
      have hYs : Y.size = 16 := by rw [hY]; exact xor16_size _ _ hZs hVs
      have hPp : P = prevD iv s.data.toList (k + 1) := hP
      have c0 : Ret 86 #[.string s, .int .i64 (a : Int), .int .i64 16] (.string P) := fun w => by
        have h := Oct.cut_yes s a 16 w (by omega) (by decide) hlt (by decide)
        rw [HA.out] at h
        rw [hP, HA.out]; exact h
      have c3 := Sched.xor_m Z V (by omega) (by omega) Y hY
      have c2 := fun w' (h : Since w1 w') => cdec_yes c key P hp Z hZ w' (HC.out.since h)
      have hrw : chainD (decK key) iv s.data.toList (k + 1) = chainD (decK key) iv s.data.toList k ++ Y.data.toList := by rw [chainD, hY, hZ, hP, HV.out]
      have i1 : (0 : Int) ≤ (a : Int) := by omega
      have hne : ¬ s.size = a := by omega
      have i2 : (a : Int) ≤ (s.size : Int) := by omega
      clear hp hP hY hVs hZ hZs hsl
      have H_c2 := Lib.hid c2
      clear c2
      have Hrw := Lib.hid hrw
      clear hrw
      have Hll := Lib.hid hll
      clear hll
      have HYs := Lib.hid hYs
      clear hYs
      have HPp := Lib.hid hPp
      clear hPp
      have HF := Lib.hid (Since.refl wr)
      go_wp2_with fail
      refine (c0).calls ?_
      go_wp2_with fail
      refine (H_c2.out _ HS.out).mono ?_
      rintro e w2 ⟨rfl, h2⟩
      have H2 := Lib.hid h2
      clear h2
      go_wp2_with fail
      go_region_law (first
        | (go_simp; go_at_call 89; refine (c3 _).mono ?_; rintro e w3 ⟨rfl, h3⟩; have hS3 := Since.step (Since.drew H2.out) h3; have hR3 := HR.out.of_block (hS3.below.block g HR.out.lt); have hS3' := Since.step HS.out hS3; obtain ⟨w4, hrun, hrow, hbel⟩ := run_copy_str w3 Y g 5 a s.size (s.size - a) (s.size - a) 3 _ (some ⟨g, a, none⟩) hR3 (fun _ => rfl) (by have := HYs.out; omega) (by have := HYs.out; omega)))
      all_goals
        have HR4 : Hid (w4.rowIs g 5 s.size (Oct.rowF (chainD (decK key) iv s.data.toList (k + 1)))) := Lib.hid (hrow.congr fun j _ => by
          have h9 := Oct.rowF_put (chainD (decK key) iv s.data.toList k) Y.data.toList j
          rw [Hll.out, ← Hrw.out] at h9
          exact h9)
        have HS4 : Hid (Since w1 w4) := Lib.hid (hbel _ _ hS3' HG.out)
        clear h3 hR3 hS3 hS3' hrow hbel hrun
        go_wp2_with fail
        go_roundw
        case rel => exact ⟨a + 16, k + 1, P, by go_num, rfl, Lib.hid (by have := HA.out; omega), hak, HPp, HR4, HS4⟩
        case measure => simp [intOf]; omega
    · have hd : decide ((a : Int) < (s.size : Int)) = false := decide_eq_false (by omega)
      have hcv := Oct.row_str wr g s.size s.size _ HR.out (by rw [hll]; omega)
      have e : bs (chainD (decK key) iv s.data.toList k) = X := by
        rw [HX.out, decC, show s.size / 16 = k from by have := HA.out; omega]
      rw [e] at hcv
      clear hsl hll
      go_wp2_with fail
      go_ret2
      exact ⟨rfl, Since.step H1.out HS.out⟩
end Cbc
end Go.Proofs.Ytgbfdgopinnlbaa

/- Package cmac: subkeys, tags. -/
namespace Go.Proofs.Ytgbfdgopinnlbaa
open Go.RowKit
namespace Cmac
open Rnd Aes

def zero : ByteArray := strOfNums (List.replicate 16 0)
theorem zero_size : zero.size = 16 := by unfold zero; rw [strOfNums_size]; simp
def sub1 (key : ByteArray) : ByteArray := dblK (encK key zero)
def sub2 (key : ByteArray) : ByteArray := dblK (sub1 key)
theorem sub1_size (key : ByteArray) : (sub1 key).size = 16 := dblK_size _
theorem sub2_size (key : ByteArray) : (sub2 key).size = 16 := dblK_size _
/-- how many blocks n bytes are -/
def blkN (n : Nat) : Nat := if n = 0 then 1 else (n - 1) / 16 + 1
/-- a piece that is no whole block -/
def padB (b : ByteArray) : ByteArray := bs (b.data.toList ++ 128 :: List.replicate (15 - b.size) 0)
theorem padB_size (b : ByteArray) (h : b.size ≤ 15) : (padB b).size = 16 := by
  have h9 : b.data.toList.length = b.size := rfl
  unfold padB
  rw [size_bs, List.length_append, List.length_cons, List.length_replicate]; omega
def lastB (key b : ByteArray) : ByteArray := if b.size = 16 then Sched.xorS b (sub1 key) else Sched.xorS (padB b) (sub2 key)
theorem lastB_size (key b : ByteArray) (h : b.size ≤ 16) : (lastB key b).size = 16 := by
  unfold lastB
  split
  · exact Cbc.xor16_size _ _ ‹_› (sub1_size _)
  · exact Cbc.xor16_size _ _ (padB_size b (by omega)) (sub2_size _)
def tagS (key : ByteArray) (l : List UInt8) : Nat → ByteArray
  | 0 => zero
  | i + 1 => encK key (Sched.xorS (tagS key l i) (Oct.pc l 16 i))
theorem tagS_size (key : ByteArray) (l : List UInt8) (i : Nat) : (tagS key l i).size = 16 := by
  cases i with
  | zero => exact zero_size
  | succ i => exact encK_size _ _
/-- the tag of a text -/
def tagK (key s : ByteArray) : ByteArray := encK key (Sched.xorS (tagS key s.data.toList (blkN s.size - 1)) (lastB key (Oct.pc s.data.toList 16 (blkN s.size - 1))))
theorem tagK_size (key s : ByteArray) : (tagK key s).size = 16 := encK_size _ _

theorem zeros_m : Mak 92 #[.int .i64 16] (.string zero) := fun w => Oct.zeros_yes 16 w (by decide) (by decide)
set_option maxRecDepth 100000 in
theorem subkeys_calls (c : Nat) (key : ByteArray) (w : World) (hC : CipK w c key) (A B : ByteArray) (hA : A = sub1 key) (hB : B = sub2 key) :
    Calls Try.prog 91 #[.pointer (some ⟨c, 0, none⟩)] w fun e w' => e = .returned (.tuple #[.string A, .string B, .int .i64 0]) ∧ Since w w' := by
  have H0 := Lib.hid (Since.refl w)
  have HC := Lib.hid hC
  obtain ⟨Z, hZ⟩ : ∃ Z, Z = zero := ⟨_, rfl⟩
  obtain ⟨Y, hY⟩ : ∃ Y, Y = encK key Z := ⟨_, rfl⟩
  have c1 := zeros_m
  rw [← hZ] at c1
  have hZs : Z.size = 16 := by rw [hZ, zero_size]
  have c2 := fun w' (h : Since w w') => cenc_yes c key Z hZs Y hY w' (hC.since h)
  have c3 := double_yes Y (by rw [hY, encK_size]) A (by rw [hA, sub1, hY, hZ])
  have c4 := double_yes A (by rw [hA, sub1_size]) B (by rw [hB, sub2, hA])
  clear hC hZ hY hA hB hZs
  have H_c2 := Lib.hid c2
  clear c2
  go_enter Try.func91, Try.ntmps91
  go_wp2_with fail
  refine c1.calls H0.out ?_
  intro w1 h1
  have H1 := Lib.hid h1
  clear h1
  go_wp2_with fail
  refine (H_c2.out _ H1.out).mono ?_
  rintro e w2 ⟨rfl, h2⟩
  have H2 := Lib.hid (Since.step H1.out h2)
  clear h2
  go_wp2_with fail
  refine c3.calls H2.out ?_
  intro w3 h3
  have H3 := Lib.hid h3
  clear h3
  go_wp2_with fail
  refine c4.calls H3.out ?_
  intro w4 h4
  have H4 := Lib.hid h4
  clear h4
  go_wp2_with fail
  go_ret3
  exact ⟨rfl, H4.out⟩
set_option maxRecDepth 100000 in
theorem subkeys_yes (key : ByteArray) (hk : keyOk key) (A B : ByteArray) (hA : A = sub1 key) (hB : B = sub2 key) : Mak 83 #[.string key] (.tuple #[.string A, .string B, .int .i64 0]) := by
  intro w
  have H0 := Lib.hid (Since.refl w)
  have c1 := new_key key hk
  have c2 := fun c w' (h : CipK w' c key) => subkeys_calls c key w' h A B hA hB
  clear hk hA hB
  have H_c2 := Lib.hid c2
  clear c2
  go_enter Try.func83, Try.ntmps83
  go_wp2_with fail
  refine c1 _ _ H0.out _ ?_
  intro c w1 hC _ h1
  have HC := Lib.hid hC
  have H1 := Lib.hid h1
  clear hC h1
  go_wp2_with fail
  refine (H_c2.out c w1 HC.out).mono ?_
  rintro e w2 ⟨rfl, h2⟩
  have H2 := Lib.hid (Since.step H1.out h2)
  clear h2
  go_wp2_with fail
  go_ret3
  exact ⟨rfl, H2.out⟩
set_option maxRecDepth 100000 in
theorem subkeys_no (key : ByteArray) (hm : key.size ≤ 1000000) (hk : ¬ keyOk key) : Ret 83 #[.string key] (.tuple #[.string ⟨#[]⟩, .string ⟨#[]⟩, .int .i64 2]) := by
  intro w
  have c1 := new_no key hm hk
  clear hk
  go_enter Try.func83, Try.ntmps83
  go_wp2_with fail
  refine (c1).calls ?_
  go_wp2_with fail
  go_ret3
  exact ⟨rfl, rfl⟩
set_option maxRecDepth 100000 in
theorem blocks_neg (n : Int) (h : n < 0) : Ret 58 #[.int .i64 n] (.int .i64 0) := by
  intro w
  go_enter Try.func58, Try.ntmps58
  go_wp2_with fail
  go_ret
  exact ⟨rfl, rfl⟩
set_option maxRecDepth 100000 in
theorem blocks_nat (n : Nat) (hm : n ≤ 9223372036854775807) (x : Int) (hx : x = ((blkN n : Nat) : Int)) : Ret 58 #[.int .i64 (n : Int)] (.int .i64 x) := by
  intro w
  by_cases h0 : n = 0
  · subst h0
    have hx1 : x = 1 := hx
    subst hx1
    clear hx
    go_enter Try.func58, Try.ntmps58
    go_wp2_with fail
    go_ret
    exact ⟨rfl, rfl⟩
  · have hx1 : x = ((n : Int) - 1) / 16 + 1 := by rw [hx, blkN, if_neg h0]; omega
    subst hx1
    have t1 : decide ((n : Int) < 0) = false := decide_eq_false (by omega)
    have t2 : ((n : Int) == 0) = false := by rw [beq_eq_false_iff_ne]; omega
    have i1 : (0 : Int) ≤ (n : Int) - 1 := by omega
    clear h0 hx
    go_enter Try.func58, Try.ntmps58
    go_wp2_with fail
    go_ret
    exact ⟨rfl, rfl⟩
set_option maxRecDepth 100000 in
set_option maxHeartbeats 1000000 in
theorem last_mak (key b A B X : ByteArray) (hb : b.size ≤ 16) (hA : A = sub1 key) (hB : B = sub2 key) (hX : X = lastB key b) : Mak 93 #[.string b, .string A, .string B] (.string X) := by
  intro w
  have H0 := Lib.hid (Since.refl w)
  have hAs : A.size = 16 := by rw [hA, sub1_size]
  have hBs : B.size = 16 := by rw [hB, sub2_size]
  by_cases h : b.size = 16
  · have t1 : ((b.size : Int) == 16) = true := by rw [beq_iff_eq]; omega
    have c1 := Sched.xor_m b A (by omega) (by omega) X (by rw [hX, lastB, if_pos h, hA])
    clear h hX hA hB hAs hBs
    go_enter Try.func93, Try.ntmps93
    go_wp2_with fail
    refine c1.calls H0.out ?_
    intro w1 h1
    have H1 := Lib.hid h1
    clear h1
    go_wp2_with fail
    go_ret
    exact ⟨rfl, H1.out⟩
  · have t1 : ((b.size : Int) == 16) = false := by rw [beq_eq_false_iff_ne]; omega
    have h9 : b.data.toList.length = b.size := rfl
    obtain ⟨J, hJ⟩ : ∃ J, J = bs (b.data.toList ++ [128]) := ⟨_, rfl⟩
    have hJs : J.size = b.size + 1 := by rw [hJ, size_bs, List.length_append]; rfl
    have hJc : J = bs (Oct.cat [b, ⟨#[128]⟩]) := by rw [hJ, Oct.cat_two]
    have c8 := fun W => Oct.join_lit W [b, ⟨#[128]⟩] 2 rfl #[.string b, .string ⟨#[128]⟩] rfl J hJc (by omega) (by decide)
    have HC8 := Lib.hid c8
    obtain ⟨P, hP⟩ : ∃ P, P = padB b := ⟨_, rfl⟩
    have hPs : P.size = 16 := by rw [hP]; exact padB_size b (by omega)
    have c2 : Mak 120 #[.string J, .int .i64 16] (.string P) := fun W => by
      by_cases h15 : b.size = 15
      · have hPJ : P = J := by rw [hP, hJ, padB, h15]; rfl
        rw [hPJ]
        exact (Oct.pad_even J 16 W (by omega) (by decide) (by decide) (by omega)).mono fun e w' ⟨he, hw⟩ => ⟨he, by subst hw; exact Below.refl _ _⟩
      · have h2 := Oct.pad_odd J 16 (b.size + 1) W (by omega) (by decide) (by decide) (by omega) (by omega)
        have hPJ : bs (J.data.toList ++ List.replicate (16 - (b.size + 1)) 0) = P := by
          rw [hP, hJ, padB, list_bs, List.append_assoc, show 16 - (b.size + 1) = 15 - b.size from by omega]; rfl
        rw [hPJ] at h2
        exact h2
    have c3 := Sched.xor_m P B (by omega) (by omega) X (by rw [hX, lastB, if_neg h, hB, hP])
    clear h hX hA hB hAs hBs hJ hJs hJc c8 hP hPs h9
    go_enter Try.func93, Try.ntmps93
    go_wp2_with fail
    refine (HC8.out w).mono ?_
    rintro e w1 ⟨rfl, h1⟩
    have H1 := Lib.hid (Since.step H0.out h1)
    clear h1
    go_wp2_with fail
    refine c2.calls H1.out ?_
    intro w2 h2
    have H2 := Lib.hid h2
    clear h2
    go_wp2_with fail
    refine c3.calls H2.out ?_
    intro w3 h3
    have H3 := Lib.hid h3
    clear h3
    go_wp2_with fail
    go_ret
    exact ⟨rfl, H3.out⟩
end Cmac
end Go.Proofs.Ytgbfdgopinnlbaa
