/- Joined texts. -/
-- PACK: YtpakifiphdlkoaaDoorJoin YtpakifiphdlkoaaDoorRow
import Derived.Test.YtpakifiphdlkoaaDoorRows
import Derived.WalkKit
import Derived.WalkSpells
import Derived.WalkLawsBesides
import Derived.Lib.Hide
import Derived.Lib.SlBuf
import Derived.Deep.OwnRows
import Derived.Deep.Draws
import Derived.Laws.BytesArg
import Derived.Test.YtpakifiphdlkoaaDoorCv3
import Derived.Test.YtpakifiphdlkoaaDoorCv11
import Derived.Test.YtpakifiphdlkoaaDoorCv1

/- octets.Join: the texts one behind the other. -/
namespace Go.Proofs.YtpakifiphdlkoaaDoor
open Go.RowKit
namespace Oct

def cat (ss : List ByteArray) : List UInt8 := (ss.map fun s => s.data.toList).flatten
theorem cat_snoc (ss : List ByteArray) (s : ByteArray) : cat (ss ++ [s]) = cat ss ++ s.data.toList := by simp [cat]
theorem cat_take (ss : List ByteArray) (k : Nat) (h : k < ss.length) : cat (ss.take (k + 1)) = cat (ss.take k) ++ ss[k].data.toList := by
  rw [List.take_succ_eq_append_getElem h, cat_snoc]
theorem cat_len (ss : List ByteArray) (k : Nat) : (cat (ss.take k)).length ≤ (cat ss).length := by
  have h : cat ss = cat (ss.take k) ++ cat (ss.drop k) := by
    unfold cat; rw [← List.flatten_append, ← List.map_append, List.take_append_drop]
  rw [h]; simp
def rowF (l : List UInt8) (j : Nat) : Value := if j < l.length then .int .u8 ((l.getD j 0).toNat : Int) else .int .u8 0
theorem rowF_put (l m : List UInt8) (j : Nat) : putAt (rowF l) l.length m j = rowF (l ++ m) j := by
  unfold putAt rowF
  by_cases h1 : j < l.length
  · rw [if_neg (by omega), if_pos h1, if_pos (by simp; omega)]
    simp [List.getD, List.getElem?_append_left h1]
  · by_cases h2 : j < l.length + m.length
    · rw [if_pos (by omega), if_pos (by simpa using h2)]
      simp [List.getD, List.getElem?_append_right (show l.length ≤ j by omega)]
    · rw [if_neg (by omega), if_neg h1, if_neg (by simpa using h2)]

set_option maxRecDepth 100000 in
set_option maxHeartbeats 1000000 in
theorem join_any (ss : List ByteArray) (ad : Addr) (cap N n : Nat) (w : World) (hn : n = ss.length) (hN : N = (cat ss).length) (hm : N ≤ 140737488355328) (hl : n ≤ 140737488355328) (hb : ad.block < w.heap.size)
    (hc : ∀ i, i < n → w.cell? (ad.add i) = some (.string (ss.getD i ⟨#[]⟩))) :
    Calls Tryd.prog 71 #[.slice (some ad) n cap] w fun e w' => e = .returned (.string (bs (cat ss))) ∧ Below w.heap.size w w' := by
  have hmk : ∀ w : World, (Instr.makeSlice 33 (.int .i64 (N : Int)) (.int .i64 (N : Int))).run Tryd.prog w = .ok (.slice (some ⟨w.heap.size, 0, none⟩) N N) (w.alloc (.cells (madeCells #[.int .u8 0] N) 5)) := fun w =>
    run_make_row' (P := Tryd.prog) 33 5 (.int .u8 0) 1 Tryd.underlying33 info5 rfl .i64 .i64 N (by omega) (by omega) w
  have HC := Lib.hid hc
  have HN := Lib.hid hn
  have HNN := Lib.hid hN
  clear hc hn hN
  go_enter Tryd.func71, Tryd.ntmps71
  go_wp2
  go_loop [3, 12] (fun t i => ∃ k : Nat, k ≤ n ∧ i = .int .i64 (k : Int) ∧ t = .int .i64 (((cat (ss.take k)).length : Nat) : Int)) (fun _ i => n - (intOf i).toNat)
  case atStart => exact ⟨0, by omega, rfl, rfl⟩
  case round =>
    obtain ⟨k, hk, rfl, rfl⟩ := hrel
    have hle := cat_len ss k
    by_cases hlt : k < n
    · have hkl : k < ss.length := by rw [← HN.out]; exact hlt
      have hcell := HC.out k hlt
      have hs := congrArg List.length (cat_take ss k hkl)
      rw [List.length_append] at hs
      have hle2 := cat_len ss (k + 1)
      obtain ⟨p, hp⟩ : ∃ p, p = ss.getD k ⟨#[]⟩ := ⟨_, rfl⟩
      have hpk : ss[k].data.toList.length = p.size := by rw [hp]; simp [List.getD, List.getElem?_eq_getElem hkl]
      rw [hpk] at hs
      rw [← hp] at hcell
      rw [← HNN.out] at hle hle2
      have HP := Lib.hid hp
      clear hp hpk
      have hsz : (cat (ss.take k)).length + p.size ≤ N := by omega
      have HS := Lib.hid hs
      clear hs hle2
      go_wp2_with fail
      go_round
      case rel => exact ⟨k + 1, by omega, by go_num, by rw [HS.out]; try go_num⟩
      case measure => simp [intOf]; omega
    · obtain rfl : k = n := by omega
      have hall : (cat (ss.take k)).length = N := by rw [HN.out, List.take_length, HNN.out]
      rw [hall]
      clear hle hall
      go_wp2_with fail
      go_loopw [7, 25] (fun t i wr => ∃ q : Nat, q ≤ k ∧ i = .int .i64 (q : Int) ∧ t = .int .i64 (((cat (ss.take q)).length : Nat) : Int) ∧ Hid (wr.rowIs w.heap.size 5 N (rowF (cat (ss.take q)))) ∧ Hid (Below w.heap.size w wr)) (fun _ i _ => k - (intOf i).toNat)
      case atStart =>
        exact ⟨0, by omega, rfl, rfl, Lib.hid ((World.rowIs_made w (.int .u8 0) N 5).congr fun j _ => by simp [rowF, cat]), Lib.hid ((Below.refl _ _).alloc (Nat.le_refl _) _)⟩
      case round =>
        obtain ⟨q, hq, rfl, rfl, HR, HB⟩ := hrel
        have hle := cat_len ss q
        by_cases hlt : q < k
        · have hql : q < ss.length := by rw [← HN.out]; exact hlt
          have hcell0 := HC.out q hlt
          have hct := cat_take ss q hql
          have hle2 := cat_len ss (q + 1)
          obtain ⟨p, hp⟩ : ∃ p, p = ss.getD q ⟨#[]⟩ := ⟨_, rfl⟩
          have hpk : ss[q] = p := by rw [hp]; simp [List.getD, List.getElem?_eq_getElem hql]
          rw [hpk] at hct
          rw [← hp] at hcell0
          have hcell : wr.cell? (ad.add q) = some (.string p) := (HB.out.cell (by rw [show (ad.add q).block = ad.block from by unfold Addr.add; split <;> rfl]; exact hb)).trans hcell0
          rw [← HNN.out] at hle hle2
          rw [hct, List.length_append] at hle2
          have hsz : (cat (ss.take q)).length + p.size ≤ N := hle2
          have HCT := Lib.hid hct
          clear hp hpk hct hle2 hcell0
          obtain ⟨L, hL⟩ : ∃ L, L = cat (ss.take q) := ⟨_, rfl⟩
          rw [← hL] at HR HCT hsz hle
          rw [← hL]
          have HL := Lib.hid hL
          clear hL
          by_cases hN2 : L.length = N
          · subst hN2
            obtain ⟨w', hrun, hrow, hbel⟩ := run_copy_str wr p w.heap.size 5 L.length L.length 0 0 3 (rowF L) (some ⟨w.heap.size, 0, none⟩) HR.out (fun h => by omega) hsz (by omega)
            have HW := Lib.hid hrow
            have HBL := Lib.hid hbel
            have HRUN := Lib.hid hrun
            clear hrow hbel hrun
            go_wp2_with (refine Lib.wpList_copy_run (P := Tryd.prog) _ (o := ⟨some 34, _, _, _, _, _⟩) rfl (.tmp 32) (.tmp 33) 33 9 rfl _ _ rfl rfl HRUN.out ?_)
            go_roundw
            case rel => exact ⟨q + 1, by omega, by go_num, by rw [HCT.out, List.length_append]; first | rfl | go_num, Lib.hid (HW.out.congr fun j _ => by rw [rowF_put, HCT.out]), Lib.hid (HBL.out _ _ HB.out (Nat.le_refl _))⟩
            case measure => simp [intOf]; omega
          · obtain ⟨w', hrun, hrow, hbel⟩ := run_copy_str wr p w.heap.size 5 L.length N (N - L.length) (N - L.length) 3 (rowF L) (some ⟨w.heap.size, L.length, none⟩) HR.out (fun h => rfl) hsz (by omega)
            have HW := Lib.hid hrow
            have HBL := Lib.hid hbel
            have HRUN := Lib.hid hrun
            clear hrow hbel hrun
            go_wp2_with (refine Lib.wpList_copy_run (P := Tryd.prog) _ (o := ⟨some 34, _, _, _, _, _⟩) rfl (.tmp 32) (.tmp 33) 33 9 rfl _ _ rfl rfl HRUN.out ?_)
            go_roundw
            case rel => exact ⟨q + 1, by omega, by go_num, by rw [HCT.out, List.length_append]; first | rfl | go_num, Lib.hid (HW.out.congr fun j _ => by rw [rowF_put, HCT.out]), Lib.hid (HBL.out _ _ HB.out (Nat.le_refl _))⟩
            case measure => simp [intOf]; omega
        · obtain rfl : q = k := by omega
          have hall : cat (ss.take q) = cat ss := by rw [HN.out, List.take_length]
          rw [hall] at HR
          have g := run_convert_bytes_arg (P := Tryd.prog) wr 33 5 Tryd.underlying33 Tryd.underlying5 w.heap.size 0 N N ((cat ss).map fun c => (c.toNat : Int)) (by rw [List.length_map, ← HNN.out]) (fun i hi => by
            rw [Nat.zero_add, HR.out.cell hi, rowF, if_pos (by rw [← HNN.out]; exact hi)]; simp [List.getD, List.getElem?_eq_getElem (show i < (cat ss).length by rw [← HNN.out]; exact hi)]) 9 Tryd.underlying9
          have hfin : strOfNums ((cat ss).map fun c => (c.toNat : Int)) = bs (cat ss) := nums_bytes _
          have HF := Lib.hid hfin
          clear hfin hall hle
          go_wp2_with fail
          go_ret
          exact ⟨by rw [← HF.out]; rfl, HB.out⟩

end Oct
end Go.Proofs.YtpakifiphdlkoaaDoor

/- A row of bytes that the call made: made, and read as a string. -/
namespace Go.Proofs.YtpakifiphdlkoaaDoor
open Go.RowKit
namespace Oct
set_option maxRecDepth 100000 in
theorem row_str (w : World) (b N c : Nat) (L : List UInt8) (h : w.rowIs b 5 N (rowF L)) (hN : L.length = N) : (convert 33 9 (.slice (some ⟨b, 0, none⟩) N c)).run Tryd.prog w = .ok (.string (bs L)) w := by
  have g := run_convert_bytes_arg (P := Tryd.prog) w 33 5 Tryd.underlying33 Tryd.underlying5 b 0 N c (L.map fun c => (c.toNat : Int)) (by rw [List.length_map, hN]) (fun i hi => by
    rw [Nat.zero_add, h.cell hi, rowF, if_pos (by omega)]; simp [List.getD, List.getElem?_eq_getElem (show i < L.length by omega)]) 9 Tryd.underlying9
  rw [g, nums_bytes]
set_option maxRecDepth 100000 in
theorem make_row (N : Nat) (hN : N ≤ 140737488355328) (w : World) : (Instr.makeSlice 33 (.int .i64 (N : Int)) (.int .i64 (N : Int))).run Tryd.prog w = .ok (.slice (some ⟨w.heap.size, 0, none⟩) N N) (w.alloc (.cells (madeCells #[.int .u8 0] N) 5)) :=
  run_make_row' (P := Tryd.prog) 33 5 (.int .u8 0) 1 Tryd.underlying33 info5 rfl .i64 .i64 N (by omega) (by omega) w
theorem made_row (N : Nat) (w : World) : (w.alloc (.cells (madeCells #[.int .u8 0] N) 5)).rowIs w.heap.size 5 N (rowF []) :=
  (World.rowIs_made w (.int .u8 0) N 5).congr fun j _ => by simp [rowF]
end Oct
end Go.Proofs.YtpakifiphdlkoaaDoor
