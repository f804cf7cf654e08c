/- Joined texts. -/
-- PACK: YtgfdomdbjiflmaaDoorAes6 YtgfdomdbjiflmaaDoorAes7
import Derived.Test.YtgfdomdbjiflmaaDoorDj43
import Derived.Test.YtgfdomdbjiflmaaDoorDj36
import Derived.Deep.MidRow
import Derived.Test.YtgfdomdbjiflmaaDoorDj7

/- Package aes: a block read; a cipher's work. -/
namespace Go.Proofs.YtgfdomdbjiflmaaDoor
open Go.RowKit
namespace Aes
open Rnd
set_option maxRecDepth 100000 in
theorem slice_b (b o : Nat) (w : World) : (Instr.sliceAt 126 (.pointer (some ⟨b, o, none⟩)) none none none).run Tryd.prog w = .ok (.slice (some ⟨b, o, none⟩) 16 16) w := by kernel_rfl
set_option maxRecDepth 100000 in
set_option maxHeartbeats 200000 in
theorem read_yes (c : Nat) (ks : List ByteArray) (n : Nat) (len : Int) (hn : (len == 0) = false) (s : ByteArray) (hs : s.size = 16) (D : Array Value) (hD : D = blC s.data.toList) (w : World) (hC : Cip w c ks n len) :
    Calls Tryd.prog 95 #[.pointer (some ⟨c, 0, none⟩), .string s] w fun e w' => e = .returned (.tuple #[.agg D, .int .i64 0]) ∧ Since w w' := by
  have hns : (s.size : Int) = 16 := by omega
  have c1 := fun w' (h : Since w w') => size_ret c len w' (hC.since h).ln
  have hs0 : Since w ((w.alloc (.cells Z16 126)).alloc (.cells Z16 126)) := ((Since.refl w).alloc _).alloc _
  have hb0 : ((w.alloc (.cells Z16 126)).alloc (.cells Z16 126)).heap[w.heap.size]? = some (.cells Z16 126 (0, 0)) := (Go.heap_alloc_old _ _ (by simp)).trans (Go.heap_alloc_new _ _)
  have hr1 : ((w.alloc (.cells Z16 126)).alloc (.cells Z16 126)).rowIs (w.heap.size + 1) 126 16 (fun _ => .int .u8 0) := by
    have h := zrow (w.alloc (.cells Z16 126)) 126 Z16 rfl z16
    simp only [World.size_alloc'] at h
    exact h
  obtain ⟨w3, hrun, hrow, hbel⟩ := run_copy_str _ s (w.heap.size + 1) 126 0 16 16 16 3 (fun _ => .int .u8 0) (some ⟨w.heap.size + 1, 0, none⟩) hr1 (fun _ => rfl) (by omega) (by omega)
  have hs3 := hbel w.heap.size w hs0 (Nat.le_add_right _ _)
  have hb3 := ((hbel (w.heap.size + 1) _ (Below.refl _ _) (Nat.le_refl _)).block w.heap.size (by omega)).trans hb0
  have hd3 : w3.heap[w.heap.size + 1]? = some (.cells D 126 (0, 0)) := by
    rw [hD]
    refine row_bl hrow fun j hj => ?_
    unfold putAt blV ent
    rw [if_pos ⟨Nat.zero_le _, by show j < 0 + s.size; omega⟩, Nat.sub_zero]
  have hsl : ∀ w', (Instr.sliceAt 126 (.pointer (some ⟨w.heap.size + 1, 0, none⟩)) none none none).run Tryd.prog w' = .ok (.slice (some ⟨w.heap.size + 1, 0, none⟩) 16 16) w' := slice_b _ _
  have iD : (Tryd.prog.info? 126).map (·.size) = some D.size := by rw [hD, blC_size]; exact i16
  have hDs : D.size = 16 := by rw [hD, blC_size]
  have hD1 : D.all (·.oneCell') = true := by rw [hD]; exact blC_one _
  unfold Z16 at hrun
  have Hs0 := Lib.hid hs0
  clear hs0
  have Hrun := Lib.hid hrun
  clear hrun
  have Hs3 := Lib.hid hs3
  clear hs3
  have Hb3 := Lib.hid hb3
  clear hb3
  have Hd3 := Lib.hid hd3
  clear hd3
  have H_iD := Lib.hid iD
  clear iD
  have HDs := Lib.hid hDs
  clear hDs
  have HD1 := Lib.hid hD1
  clear hD1
  clear hC hs hD hbel hrow hr1 hb0
  go_enter Tryd.func95, Tryd.ntmps95
  go_wp2_with fail
  refine (c1 _ Hs0.out).mono ?_
  rintro e w2 ⟨rfl, rfl⟩
  go_wp2_with (first
    | ((with_reducible refine Lib.wpList_copy_run (P := Tryd.prog) _ (o := ⟨some 17, _, _, _, _, _⟩) ?_ (.tmp 15) (.tmp 16) 97 9 ?_ _ _ ?_ ?_ Hrun.out ?_) <;> try rfl)
    | (refine wpList_load_row rfl 126 _ rfl (w.heap.size + 1) (by rfl) _ D _ _ Hd3.out Tryd.underlying126 rfl H_iD.out ?_) | (refine wpList_store_row rfl 126 _ _ rfl w.heap.size D (by rfl) (by rfl) _ _ Hb3.out H_iD.out (by rw [HDs.out]; rfl) HD1.out ?_))
  exact bodyPost_ret (v := .tuple #[.agg D, .int .i64 0]) (results_row_tmp Tryd.results95 _ _ w.heap.size _ _ _ _ _ rfl rfl (setRow_heap _ _ _ _ _ _ Hb3.out) Tryd.underlying126 rfl H_iD.out) rfl ⟨rfl, below_setRow Hs3.out (Nat.le_refl _) _⟩
set_option maxRecDepth 100000 in
theorem key_load (w : World) (c : Nat) (ks : List ByteArray) (n : Nat) (len : Int) (hC : Cip w c ks n len) (j o : Nat) (hj : j ≤ n) (ho : o = 1794 + 16 * j) (D : Array Value) (hD : D = blC (rk ks j)) :
    (Instr.loadAt 126 (.pointer (some ⟨c, o, none⟩))).run Tryd.prog w = .ok (.agg D) w := by
  have h := run_loadAt_mid (P := Tryd.prog) w c o 126 (blC (rk ks j)).toList _ (fun i v hv => by
    have hi : i < 16 := by
      have h1 := (List.getElem?_eq_some_iff.1 hv).1
      rw [Array.length_toList, blC_size] at h1
      exact h1
    rw [Array.getElem?_toList, blC_at _ _ hi] at hv
    rw [ho, ← Option.some.inj hv]
    exact hC.ky j hj i hi) Tryd.underlying126 rfl (by rw [Array.length_toList, blC_size]; exact i16)
  rw [h, hD]
set_option maxRecDepth 100000 in
theorem row_load (w : World) (b : Nat) (D : Array Value) (hs : D.size = 16) (h : w.heap[b]? = some (.cells D 126 (0, 0))) : (Instr.loadAt 126 (.pointer (some ⟨b, 0, none⟩))).run Tryd.prog w = .ok (.agg D) w := by
  simp only [Instr.loadAt, Instr.sureAddr, Sem.run_bind, Sem.run_pure, Result.andThen_ok]
  exact run_loadVar_row w b _ _ D _ _ h Tryd.underlying126 rfl (by rw [hs]; exact i16)
theorem row_set {w : World} {b : Nat} {C D : Array Value} {t : TypeId} (h : w.heap[b]? = some (.cells C t (0, 0))) : (w.setRow b D).heap[b]? = some (.cells D t (0, 0)) := setRow_heap _ _ _ _ _ _ h
set_option maxRecDepth 100000 in
set_option maxHeartbeats 2000000 in
theorem enc_no (c : Nat) (ks : List ByteArray) (n : Nat) (len : Int) (hn : (len == 0) = false) (s : ByteArray) (hs : s.size ≠ 16) (hm : s.size ≤ 140737488355328) (w : World) (hC : Cip w c ks n len) :
    Calls Tryd.prog 83 #[.pointer (some ⟨c, 0, none⟩), .string s] w fun e w' => e = .returned (.tuple #[.string ⟨#[]⟩, .int .i64 4]) ∧ Since w w' := by
  have c1 := read_no c ks n len hn s hs hm w hC
  have HC1 := Lib.hid c1
  clear hC hs c1
  go_enter Tryd.func83, Tryd.ntmps83
  go_wp2_with fail
  refine HC1.out.mono ?_
  rintro e w2 ⟨rfl, h2⟩
  have hs2 := Lib.hid (Since.alloc h2 (.cells Z16 126))
  have hb2 := Lib.hid (Go.heap_alloc_new w2 (.cells Z16 126))
  have hg := Lib.hid (Below.size h2)
  clear h2
  go_wp2_with (refine wpList_store_row rfl 126 _ _ rfl w2.heap.size Z16 (by rfl) (by rfl) _ _ hb2.out i16 rfl z16_one ?_)
  go_ret2
  exact ⟨rfl, below_setRow hs2.out hg.out _⟩
end Aes
end Go.Proofs.YtgfdomdbjiflmaaDoor

/- Package aes: a block encrypted by a cipher. -/
namespace Go.Proofs.YtgfdomdbjiflmaaDoor
open Go.RowKit
namespace Aes
open Rnd

set_option maxRecDepth 100000 in
theorem conv16 (l : List UInt8) (hl : l.length = 16) (w : World) (b : Nat) (h : w.heap[b]? = some (.cells (blC l) 126 (0, 0))) :
    (convert 97 9 (.slice (some ⟨b, 0, none⟩) 16 16)).run Tryd.prog w = .ok (.string (bs l)) w := by
  have hr := bl_row h
  have g := run_convert_bytes_arg (P := Tryd.prog) w 97 5 Tryd.underlying97 Tryd.underlying5 b 0 16 16 (l.map fun c => (c.toNat : Int)) (by rw [List.length_map, hl]) (fun i hi => by
    rw [Nat.zero_add, hr.cell hi]
    unfold blV ent
    simp [List.getD, List.getElem?_eq_getElem (show i < l.length by omega)]) 9 Tryd.underlying9
  rw [g]
  rw [nums_bytes]
set_option maxRecDepth 100000 in
set_option maxHeartbeats 2000000 in
theorem enc_yes (c : Nat) (ks : List ByteArray) (n : Nat) (hn14 : n ≤ 14) (hn1 : 1 ≤ n) (len : Int) (hn : (len == 0) = false) (s : ByteArray) (hs : s.size = 16) (X : ByteArray) (hX : X = bs (encL ks n s.data.toList)) (w : World) (hC : Cip w c ks n len) :
    Calls Tryd.prog 83 #[.pointer (some ⟨c, 0, none⟩), .string s] w fun e w' => e = .returned (.tuple #[.string X, .int .i64 0]) ∧ Since w w' := by
  have hl : s.data.toList.length = 16 := hs
  obtain ⟨D, hD⟩ : ∃ D, D = blC s.data.toList := ⟨_, rfl⟩
  obtain ⟨K0, hK0⟩ : ∃ K, K = blC (rk ks 0) := ⟨_, rfl⟩
  obtain ⟨E0, hE0⟩ : ∃ E, E = blC (fwdL ks n s.data.toList 0) := ⟨_, rfl⟩
  have hDs : D.size = 16 := by rw [hD, blC_size]
  have hD1 : D.all (·.oneCell') = true := by rw [hD]; exact blC_one _
  have hE0s : E0.size = 16 := by rw [hE0, blC_size]
  have hE01 : E0.all (·.oneCell') = true := by rw [hE0]; exact blC_one _
  have iD : (Tryd.prog.info? 126).map (·.size) = some D.size := by rw [hDs]; exact i16
  have iE0 : (Tryd.prog.info? 126).map (·.size) = some E0.size := by rw [hE0s]; exact i16
  have HC1 := Lib.hid (read_yes c ks n len hn s hs D hD w hC)
  have HA := Lib.hid (add_mak s.data.toList (rk ks 0) D K0 E0 hD hK0 hE0)
  have HC := Lib.hid hC
  have HX := Lib.hid hX
  clear hC hX hs hD
  have HDs := Lib.hid hDs
  clear hDs
  have HD1 := Lib.hid hD1
  clear hD1
  have HE0s := Lib.hid hE0s
  clear hE0s
  have HE01 := Lib.hid hE01
  clear hE01
  have H_iD := Lib.hid iD
  clear iD
  have H_iE0 := Lib.hid iE0
  clear iE0
  have HE0 := Lib.hid hE0
  clear hE0
  have HK0 := Lib.hid hK0
  clear hK0
  go_enter Tryd.func83, Tryd.ntmps83
  go_wp2_with fail
  refine HC1.out.mono ?_
  rintro e w2 ⟨rfl, h2⟩
  have hset := World.setRow_alloc_new w2 Z16 D 126
  have hb2 := Go.heap_alloc_new w2 (.cells D 126)
  have hz2 := Go.heap_alloc_new w2 (.cells Z16 126)
  have hs2 : Since w (w2.alloc (.cells D 126)) := Since.alloc h2 _
  obtain ⟨b, hb⟩ : ∃ b, b = w2.heap.size := ⟨_, rfl⟩
  have hg : w.heap.size ≤ b := by rw [hb]; exact Below.size h2
  unfold Z16 at hset
  have Hset := Lib.hid hset
  clear hset
  have Hz2 := Lib.hid hz2
  clear hz2
  go_wp2_with (refine wpList_store_row rfl 126 _ _ rfl w2.heap.size D (by rfl) (by rfl) _ _ Hz2.out H_iD.out (by rw [HDs.out]; rfl) HD1.out ?_; rw [Hset.out])
  rw [← hb] at hb2 ⊢
  obtain ⟨W, hW⟩ : ∃ W, W = w2.alloc (.cells D 126) := ⟨_, rfl⟩
  rw [← hW] at hb2 hs2 ⊢
  have l1 : (Instr.loadAt 126 (.pointer (some ⟨b, 0, none⟩))).run Tryd.prog W.drew = .ok (.agg D) W.drew := row_load _ _ _ HDs.out hb2
  have l2 : (Instr.loadAt 126 (.pointer (some ⟨c, 1794, none⟩))).run Tryd.prog W.drew = .ok (.agg K0) W.drew := key_load _ _ _ _ _ (HC.out.since (Since.drew hs2)) 0 _ (by omega) rfl _ HK0.out
  clear hW hb Hset Hz2 h2
  have Hb2 := Lib.hid hb2
  clear hb2
  have Hs2 := Lib.hid hs2
  clear hs2
  have Hg := Lib.hid hg
  clear hg
  refine wp_region_still_tail 6 (by kernel_rfl) (by kernel_rfl) ?_
  simp only [List.take_succ_cons, List.take_zero, List.drop_succ_cons, List.drop_zero]
  change wpStill _ _ W.drew (fun a' => wpList _ _ _ _ a' W.drew) _ _
  repeat (first
    | ((with_reducible refine wpStill_load (some 18) 126 (.tmp 6) _ _ ?_ l1 ?_) <;> try rfl)
    | ((with_reducible refine wpStill_load (some 23) 126 (.tmp 22) _ _ ?_ l2 ?_) <;> try rfl)
    | (refine wpStill_step (fun K hK => ?_); go_simp; refine hK _ ?_; clear hK K))
  refine wpStill_nil ?_
  go_wp2_with fail
  refine (HA.out _).mono ?_
  rintro e w3 ⟨rfl, h3⟩
  have hb3 := (h3.block b (by have := lt_of_heap Hb2.out; simp; omega)).trans Hb2.out
  have hs3 := Since.step (Since.drew Hs2.out) h3
  clear h3 l1 l2 Hb2 Hs2
  have HB4 := Lib.hid (row_set (D := E0) hb3)
  have HS4 : Hid (Since w (w3.setRow b E0)) := Lib.hid (below_setRow hs3 Hg.out _)
  have Hb3 := Lib.hid hb3
  clear hb3
  have Hs3 := Lib.hid hs3
  clear hs3
  go_wp2_with (refine wpList_store_row rfl 126 _ _ rfl b E0 (by rfl) (by rfl) _ _ Hb3.out H_iE0.out (by rw [HDs.out, HE0s.out]) HE01.out ?_)
  go_loopw [8] (fun i wr => ∃ j : Nat, 1 ≤ j ∧ j ≤ n + 1 ∧ i = .int .i64 (j : Int) ∧ Hid (wr.heap[b]? = some (.cells (blC (fwdL ks n s.data.toList (j - 1))) 126 (0, 0))) ∧ Hid (Since w wr)) (fun i _ => n + 1 - (intOf i).toNat)
  case atStart => exact ⟨1, by omega, by omega, rfl, Lib.hid (by rw [show 1 - 1 = 0 from rfl, ← HE0.out]; exact HB4.out), HS4⟩
  case round =>
    clear HB4 HS4 Hb3 Hs3
    obtain ⟨j, hj1, hj2, rfl, HB, HS⟩ := hrel
    have hcn := (HC.out.since HS.out).rd
    by_cases hlt : j ≤ n
    · have hd : decide ((j : Int) ≤ (n : Int)) = true := decide_eq_true (by omega)
      obtain ⟨F, hF⟩ : ∃ F, F = blC (fwdL ks n s.data.toList (j - 1)) := ⟨_, rfl⟩
      rw [← hF] at HB
      obtain ⟨Kj, hKj⟩ : ∃ K, K = blC (rk ks j) := ⟨_, rfl⟩
      obtain ⟨E, hE⟩ : ∃ E, E = blC (fwdL ks n s.data.toList j) := ⟨_, rfl⟩
      obtain ⟨q, hq⟩ : ∃ q, q = decide (j = n) := ⟨_, rfl⟩
      have hqe : ((j : Int) == (n : Int)) = q := by
        rw [hq]
        by_cases h : j = n
        · rw [decide_eq_true h, beq_iff_eq, h]
        · rw [decide_eq_false h, beq_eq_false_iff_ne]; omega
      have hEe : E = blC (doL q (fwdL ks n s.data.toList (j - 1)) (rk ks j)) := by
        obtain ⟨m, rfl⟩ : ∃ m, j = m + 1 := ⟨j - 1, by omega⟩
        rw [hE, hq]; rfl
      have c1 := do_calls (fwdL ks n s.data.toList (j - 1)) (rk ks j) (fwdL_len _ _ _ _) c q F Kj E hF hKj hEe wr.drew ((HC.out.since HS.out).tb.since (Since.drew (Since.refl _)))
      have l1 : (Instr.loadAt 126 (.pointer (some ⟨b, 0, none⟩))).run Tryd.prog wr.drew = .ok (.agg F) wr.drew := row_load _ _ _ (by rw [hF, blC_size]) HB.out
      have l2 : (Instr.loadAt 126 (.pointer (some ⟨c, 1794 + j * 16, none⟩))).run Tryd.prog wr.drew = .ok (.agg Kj) wr.drew := key_load _ _ _ _ _ (HC.out.since (Since.drew HS.out)) j _ (by omega) (by omega) _ hKj
      have i1 : (0 : Int) ≤ (j : Int) := by omega
      have i2 : (j : Int) < 15 := by omega
      have hFs : F.size = 16 := by rw [hF, blC_size]
      have hEs : E.size = 16 := by rw [hE, blC_size]
      have hE1 : E.all (·.oneCell') = true := by rw [hE]; exact blC_one _
      have iE : (Tryd.prog.info? 126).map (·.size) = some E.size := by rw [hEs]; exact i16
      clear hq hEe hF hKj
      have HE := Lib.hid hE
      clear hE
      have HFs := Lib.hid hFs
      clear hFs
      have HEs := Lib.hid hEs
      clear hEs
      have HE1 := Lib.hid hE1
      clear hE1
      have H_iE := Lib.hid iE
      clear iE
      have H_c1 := Lib.hid c1
      clear c1
      go_wp2_with fail
      refine wp_region_still_tail 16 (by kernel_rfl) (by kernel_rfl) ?_
      simp only [List.take_succ_cons, List.take_zero, List.drop_succ_cons, List.drop_zero]
      change wpStill _ _ wr.drew (fun a' => wpList _ _ _ _ a' wr.drew) _ _
      repeat (first
        | ((with_reducible refine wpStill_load (some 36) 126 (.tmp 6) _ _ ?_ l1 ?_) <;> try rfl)
        | ((with_reducible refine wpStill_load (some 42) 126 (.tmp 41) _ _ ?_ l2 ?_) <;> try rfl)
        | (refine wpStill_step (fun K hK => ?_); go_simp; refine hK _ ?_; clear hK K))
      refine wpStill_nil ?_
      go_wp2_with fail
      refine H_c1.out.mono ?_
      rintro e w3 ⟨rfl, h3⟩
      have hb3 := (h3.block b (by have := lt_of_heap HB.out; simp; omega)).trans HB.out
      have hs3 := Since.step (Since.drew HS.out) h3
      clear h3 l1 l2
      have HB4 := Lib.hid (row_set (D := E) hb3)
      have HS4 : Hid (Since w (w3.setRow b E)) := Lib.hid (below_setRow hs3 Hg.out _)
      have Hb3 := Lib.hid hb3
      clear hb3
      have Hs3 := Lib.hid hs3
      clear hs3
      go_wp2_with (refine wpList_store_row rfl 126 _ _ rfl b E (by rfl) (by rfl) _ _ Hb3.out H_iE.out (by rw [HFs.out, HEs.out]) HE1.out ?_)
      go_roundw
      case rel => exact ⟨j + 1, by omega, by omega, by go_num, Lib.hid (by rw [Nat.add_sub_cancel, ← HE.out]; exact HB4.out), HS4⟩
      case measure => simp [intOf]; omega
    · have hd : decide ((j : Int) ≤ (n : Int)) = false := decide_eq_false (by omega)
      have hsl : ∀ w', (Instr.sliceAt 126 (.pointer (some ⟨b, 0, none⟩)) none none none).run Tryd.prog w' = .ok (.slice (some ⟨b, 0, none⟩) 16 16) w' := slice_b _ _
      have hcv := conv16 _ (fwdL_len ks n s.data.toList (j - 1)) wr b HB.out
      rw [show bs (fwdL ks n s.data.toList (j - 1)) = X from by rw [HX.out, encL, show j - 1 = n from by omega]] at hcv
      go_wp2_with fail
      go_ret2
      exact ⟨rfl, HS.out⟩
end Aes
end Go.Proofs.YtgfdomdbjiflmaaDoor
