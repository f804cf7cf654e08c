/- Package equal: Nought, Pick. -/
import Derived.Test.YtldipjlepofdgaaEq3
namespace Go.Proofs.Ytldipjlepofdgaa
open Go.RowKit
namespace Eql

def zs (l : List UInt8) : List UInt8 := List.replicate l.length 0
theorem df_zs (l : List UInt8) (i : Nat) (h : i < l.length) : df l (zs l) i = l[i].toNat := by
  unfold df zs
  rw [if_pos ⟨h, by simpa using h⟩]
  simp [List.getD, h]

set_option maxRecDepth 100000 in
set_option maxHeartbeats 2000000 in
theorem nought_any (s : ByteArray) (hm : s.size ≤ 140737488355327) (B : Bool) (hB : B = decide (unl s.data.toList (zs s.data.toList) s.size = 0)) : Mak 50 #[.string s] (.tuple #[.bool B, .int .i64 (s.size : Int)]) := by
  intro w
  have hz : allZ (fun j => orA s.data.toList (zs s.data.toList) j s.size) = B := by
    rw [hB]
    by_cases h : unl s.data.toList (zs s.data.toList) s.size = 0
    · rw [decide_eq_true h, allZ_iff]; exact (orA_zero _ _ _).2 h
    · rw [decide_eq_false h]
      cases hc : allZ (fun j => orA s.data.toList (zs s.data.toList) j s.size) with
      | false => rfl
      | true => exact absurd ((orA_zero _ _ _).1 ((allZ_iff _).1 hc)) h
  have HZ := Lib.hid hz
  clear hz hB
  go_enter Try.func50, Try.ntmps50
  go_wp2_with fail
  go_loopw [8] (fun i wr => ∃ k : Nat, k ≤ s.size ∧ i = .int .i64 (k : Int) ∧ Hid (Bits wr w.heap.size (fun j => orA s.data.toList (zs s.data.toList) j k)) ∧ Hid (Since w wr)) (fun i _ => s.size - (intOf i).toNat)
  case atStart =>
    refine ⟨0, by omega, rfl, Lib.hid ?_, Lib.hid ((Since.refl w).alloc _)⟩
    exact World.rowIs_alloc w _ _ (fun j => .int .u8 (orA s.data.toList (zs s.data.toList) j 0 : Nat)) (fun i hi => by
        match i, hi with
        | 0, _ | 1, _ | 2, _ | 3, _ | 4, _ | 5, _ | 6, _ | 7, _ | 8, _ | 9, _ | 10, _ | 11, _ | 12, _ | 13, _ | 14, _ | 15, _ => rfl
        | n + 16, hi => simp at hi; omega)
  case round =>
    obtain ⟨k, hk, rfl, HR, HS⟩ := hrel
    by_cases hlt : k < s.size
    · obtain ⟨r, hr⟩ : ∃ r, r = k % 16 := ⟨_, rfl⟩
      have hr2 : r < 16 := by omega
      have hri : (k : Int) % 16 = (r : Int) := by omega
      have hcell2 : wr.cell? ⟨w.heap.size, r, none⟩ = some (.int .u8 ((orA s.data.toList (zs s.data.toList) r k : Nat) : Int)) := World.rowIs.cell HR.out (i := r) hr2
      have hfr2 := World.rowIs.frozen HR.out r
      have hlt9 : k < s.data.toList.length := hlt
      have hd : df s.data.toList (zs s.data.toList) k = s[k].toNat := df_zs _ k hlt9
      have hg : ∀ j, orA s.data.toList (zs s.data.toList) j (k + 1) = if r = j then orA s.data.toList (zs s.data.toList) j k ||| s[k].toNat else orA s.data.toList (zs s.data.toList) j k := fun j => by
        rw [← hd, hr]; rfl
      have ho : bits .or .u8 ((orA s.data.toList (zs s.data.toList) r k : Nat) : Int) (s[k].toNat : Int) = ((orA s.data.toList (zs s.data.toList) r (k + 1) : Nat) : Int) := by
        rw [u8_or_nat _ _ (orA_lt _ _ _ _) s[k].toNat_lt, hg r, if_pos rfl]
      obtain ⟨x, hx⟩ : ∃ x, x = orA s.data.toList (zs s.data.toList) r k := ⟨_, rfl⟩
      obtain ⟨y, hy⟩ : ∃ y, y = orA s.data.toList (zs s.data.toList) r (k + 1) := ⟨_, rfl⟩
      rw [← hx] at hcell2 ho
      rw [← hy] at ho
      have hc := s[k].toNat_lt
      have Hx := Lib.hid hx
      clear hx
      have Hy := Lib.hid hy
      clear hy
      have Ho := Lib.hid ho
      clear ho
      have Hd := Lib.hid hd
      clear hd
      have Hg := Lib.hid hg
      clear hg
      have Hr := Lib.hid hr
      clear hr
      go_wp2_with fail
      go_region
      go_wp2_with fail
      go_roundw
      case rel =>
        refine ⟨k + 1, by omega, by go_num, Lib.hid ?_, Lib.hid (Since.drew (Below.setCell HS.out (p := ⟨w.heap.size, r, none⟩) (Nat.le_refl _) _))⟩
        rw [Ho.out]
        exact World.rowIs.drew ((World.rowIs.set HR.out r _).congr (fun j hj => by
          by_cases hjr : j = r
          · rw [if_pos hjr, hjr, Hy.out]
          · rw [if_neg hjr]
            show Value.int .u8 ((orA s.data.toList (zs s.data.toList) j k : Nat) : Int) = Value.int .u8 ((orA s.data.toList (zs s.data.toList) j (k + 1) : Nat) : Int)
            rw [Hg.out j, if_neg (fun h => hjr h.symm)]))
      case measure => simp [intOf]; omega
    · obtain rfl : k = s.size := by omega
      have hb := HR.out
      obtain ⟨f, hf⟩ : ∃ f : Nat → Nat, f = fun j => orA s.data.toList (zs s.data.toList) j s.size := ⟨_, rfl⟩
      rw [← hf] at hb
      have hzz : allZ f = B := by rw [hf]; exact HZ.out
      clear hf
      have k0 := World.rowIs.cell hb (i := 0) (by decide)
      have k1 := World.rowIs.cell hb (i := 1) (by decide)
      have k2 := World.rowIs.cell hb (i := 2) (by decide)
      have k3 := World.rowIs.cell hb (i := 3) (by decide)
      have k4 := World.rowIs.cell hb (i := 4) (by decide)
      have k5 := World.rowIs.cell hb (i := 5) (by decide)
      have k6 := World.rowIs.cell hb (i := 6) (by decide)
      have k7 := World.rowIs.cell hb (i := 7) (by decide)
      have k8 := World.rowIs.cell hb (i := 8) (by decide)
      have k9 := World.rowIs.cell hb (i := 9) (by decide)
      have k10 := World.rowIs.cell hb (i := 10) (by decide)
      have k11 := World.rowIs.cell hb (i := 11) (by decide)
      have k12 := World.rowIs.cell hb (i := 12) (by decide)
      have k13 := World.rowIs.cell hb (i := 13) (by decide)
      have k14 := World.rowIs.cell hb (i := 14) (by decide)
      have k15 := World.rowIs.cell hb (i := 15) (by decide)
      have heq := eq16 f
      rw [hzz] at heq
      have Hb := Lib.hid hb
      clear hb
      have Hzz := Lib.hid hzz
      clear hzz
      go_wp2_with fail
      go_ret2
      exact ⟨rfl, HS.out⟩

set_option maxHeartbeats 1000000 in
theorem pick_no (yes : Bool) (a b : ByteArray) (h : a.size ≠ b.size) : Ret 56 #[.bool yes, .string a, .string b] (.string ⟨#[]⟩) := by
  intro w
  have hb : ((a.size : Int) != (b.size : Int)) = true := by rw [bne_iff_ne]; omega
  clear h
  go_enter Try.func56, Try.ntmps56
  go_wp2_with fail
  go_ret
  exact ⟨rfl, rfl⟩

theorem and255 (a : Nat) (h : a < 256) : bits .and .u8 (a : Int) 255 = (a : Int) := by
  have h1 := u8_and_nat a 255 h (by decide)
  have h2 : a &&& 255 = a := by rw [show (255 : Nat) = 2 ^ 8 - 1 from rfl, Nat.and_two_pow_sub_one_eq_mod]; omega
  rw [h2] at h1
  exact h1
theorem and0 (a : Nat) (h : a < 256) : bits .and .u8 (a : Int) 0 = 0 := by
  have h1 := u8_and_nat a 0 h (by decide)
  rw [Nat.and_zero] at h1
  exact h1
theorem andNot255 (a : Nat) (h : a < 256) : bits .andNot .u8 (a : Int) 255 = 0 := by
  have h1 := u8_andNot_nat a 255 h (by decide)
  rw [Nat.sub_self, Nat.and_zero] at h1
  exact h1
theorem andNot0 (a : Nat) (h : a < 256) : bits .andNot .u8 (a : Int) 0 = (a : Int) := by
  have h1 := u8_andNot_nat a 0 h (by decide)
  have h2 : a &&& 255 = a := by rw [show (255 : Nat) = 2 ^ 8 - 1 from rfl, Nat.and_two_pow_sub_one_eq_mod]; omega
  rw [Nat.sub_zero, h2] at h1
  exact h1
theorem or0 (a : Nat) (h : a < 256) : bits .or .u8 (a : Int) 0 = (a : Int) := by
  have h1 := u8_or_nat a 0 h (by decide)
  rw [Nat.or_zero] at h1
  exact h1
theorem zor (a : Nat) (h : a < 256) : bits .or .u8 0 (a : Int) = (a : Int) := by
  have h1 := u8_or_nat 0 a (by decide) h
  rw [Nat.zero_or] at h1
  exact h1

set_option maxRecDepth 100000 in
set_option maxHeartbeats 2000000 in
theorem pick_yes (a b : ByteArray) (n : Nat) (ha : a.size = n) (hb : b.size = n) (hm : n ≤ 140737488355328) : Mak 56 #[.bool true, .string a, .string b] (.string a) := by
  intro w
  have hmk : ∀ w : World, (Instr.makeSlice 59 (.int .i64 (n : Int)) (.int .i64 (n : Int))).run Try.prog w = .ok (.slice (some ⟨w.heap.size, 0, none⟩) n n) (w.alloc (.cells (madeCells #[.int .u8 0] n) 5)) := fun w =>
    run_make_row' (P := Try.prog) 59 5 (.int .u8 0) 1 Try.underlying59 info5 rfl .i64 .i64 n (by omega) (by omega) w
  have hbb : ((n : Int) != (n : Int)) = false := by simp
  go_enter Try.func56, Try.ntmps56
  go_wp2_with fail
  go_loopw [21] (fun i wr => ∃ k : Nat, k ≤ n ∧ i = .int .i64 (k : Int) ∧ Hid (wr.rowIs w.heap.size 5 n (fun j => if j < k then .int .u8 ((a.data.toList.getD j 0).toNat : Int) else .int .u8 0)) ∧ Hid (Since w wr)) (fun i _ => n - (intOf i).toNat)
  case atStart =>
    exact ⟨0, by omega, rfl, Lib.hid ((World.rowIs_made w (.int .u8 0) n 5).congr fun j _ => by simp), Lib.hid ((Since.refl w).alloc _)⟩
  case round =>
    obtain ⟨k, hk, rfl, HR, HS⟩ := hrel
    by_cases hlt : k < n
    · have hc := HR.out.cell (i := k) hlt
      have hf := HR.out.frozen k
      have hka : k < a.size := by omega
      have hkb : k < b.size := by omega
      have h1 := a[k].toNat_lt
      have h2 := b[k].toNat_lt
      have e1 := and255 a[k].toNat h1
      have e2 := andNot255 b[k].toNat h2
      have e3 := or0 a[k].toNat (by first | exact h1 | exact h2)
      have hg : a.data.toList.getD k 0 = a[k] := by simp [List.getD, List.getElem?_eq_getElem (show k < a.data.toList.length by first | exact hka | exact hkb)]; rfl
      have H_e1 := Lib.hid e1
      clear e1
      have H_e2 := Lib.hid e2
      clear e2
      have H_e3 := Lib.hid e3
      clear e3
      have Hg := Lib.hid hg
      clear hg
      clear hbb
      go_wp2_with fail
      go_region
      go_wp2_with fail
      go_roundw
      case rel =>
        refine ⟨k + 1, by omega, by go_num, Lib.hid ?_, Lib.hid (Since.drew (Below.setCell HS.out (p := ⟨w.heap.size, k, none⟩) (Nat.le_refl _) _))⟩
        refine World.rowIs.drew ((World.rowIs.set HR.out k _).congr (fun j hj => ?_))
        by_cases h1 : j = k
        · subst h1
          rw [if_pos rfl, if_pos (by omega), Hg.out, H_e1.out, H_e2.out, H_e3.out]
        · by_cases h2 : j < k
          · simp [h1, h2, show j < k + 1 from by omega]
          · simp [h1, h2, show ¬ j < k + 1 from by omega]
      case measure => simp [intOf]; omega
    · obtain rfl : k = n := by omega
      have hXs : a.data.toList.length = k := by first | exact ha | exact hb
      have g := run_convert_bytes_arg (P := Try.prog) wr 59 5 Try.underlying59 Try.underlying5 w.heap.size 0 k k (a.data.toList.map fun c => (c.toNat : Int)) (by rw [List.length_map, hXs]) (fun i hi => by
        rw [Nat.zero_add, HR.out.cell hi, if_pos hi]; simp [List.getD, List.getElem?_eq_getElem (show i < a.data.toList.length by omega)]) 9 Try.underlying9
      rw [nums_bytes, bs_list] at g
      clear hbb hXs
      go_wp2_with fail
      go_ret
      exact ⟨rfl, HS.out⟩

set_option maxRecDepth 100000 in
set_option maxHeartbeats 2000000 in
theorem pick_not (a b : ByteArray) (n : Nat) (ha : a.size = n) (hb : b.size = n) (hm : n ≤ 140737488355328) : Mak 56 #[.bool false, .string a, .string b] (.string b) := by
  intro w
  have hmk : ∀ w : World, (Instr.makeSlice 59 (.int .i64 (n : Int)) (.int .i64 (n : Int))).run Try.prog w = .ok (.slice (some ⟨w.heap.size, 0, none⟩) n n) (w.alloc (.cells (madeCells #[.int .u8 0] n) 5)) := fun w =>
    run_make_row' (P := Try.prog) 59 5 (.int .u8 0) 1 Try.underlying59 info5 rfl .i64 .i64 n (by omega) (by omega) w
  have hbb : ((n : Int) != (n : Int)) = false := by simp
  go_enter Try.func56, Try.ntmps56
  go_wp2_with fail
  go_loopw [21] (fun i wr => ∃ k : Nat, k ≤ n ∧ i = .int .i64 (k : Int) ∧ Hid (wr.rowIs w.heap.size 5 n (fun j => if j < k then .int .u8 ((b.data.toList.getD j 0).toNat : Int) else .int .u8 0)) ∧ Hid (Since w wr)) (fun i _ => n - (intOf i).toNat)
  case atStart =>
    exact ⟨0, by omega, rfl, Lib.hid ((World.rowIs_made w (.int .u8 0) n 5).congr fun j _ => by simp), Lib.hid ((Since.refl w).alloc _)⟩
  case round =>
    obtain ⟨k, hk, rfl, HR, HS⟩ := hrel
    by_cases hlt : k < n
    · have hc := HR.out.cell (i := k) hlt
      have hf := HR.out.frozen k
      have hka : k < a.size := by omega
      have hkb : k < b.size := by omega
      have h1 := a[k].toNat_lt
      have h2 := b[k].toNat_lt
      have e1 := and0 a[k].toNat h1
      have e2 := andNot0 b[k].toNat h2
      have e3 := zor b[k].toNat (by first | exact h1 | exact h2)
      have hg : b.data.toList.getD k 0 = b[k] := by simp [List.getD, List.getElem?_eq_getElem (show k < b.data.toList.length by first | exact hka | exact hkb)]; rfl
      have H_e1 := Lib.hid e1
      clear e1
      have H_e2 := Lib.hid e2
      clear e2
      have H_e3 := Lib.hid e3
      clear e3
      have Hg := Lib.hid hg
      clear hg
      clear hbb
      go_wp2_with fail
      go_region
      go_wp2_with fail
      go_roundw
      case rel =>
        refine ⟨k + 1, by omega, by go_num, Lib.hid ?_, Lib.hid (Since.drew (Below.setCell HS.out (p := ⟨w.heap.size, k, none⟩) (Nat.le_refl _) _))⟩
        refine World.rowIs.drew ((World.rowIs.set HR.out k _).congr (fun j hj => ?_))
        by_cases h1 : j = k
        · subst h1
          rw [if_pos rfl, if_pos (by omega), Hg.out, H_e1.out, H_e2.out, H_e3.out]
        · by_cases h2 : j < k
          · simp [h1, h2, show j < k + 1 from by omega]
          · simp [h1, h2, show ¬ j < k + 1 from by omega]
      case measure => simp [intOf]; omega
    · obtain rfl : k = n := by omega
      have hXs : b.data.toList.length = k := by first | exact ha | exact hb
      have g := run_convert_bytes_arg (P := Try.prog) wr 59 5 Try.underlying59 Try.underlying5 w.heap.size 0 k k (b.data.toList.map fun c => (c.toNat : Int)) (by rw [List.length_map, hXs]) (fun i hi => by
        rw [Nat.zero_add, HR.out.cell hi, if_pos hi]; simp [List.getD, List.getElem?_eq_getElem (show i < b.data.toList.length by omega)]) 9 Try.underlying9
      rw [nums_bytes, bs_list] at g
      clear hbb hXs
      go_wp2_with fail
      go_ret
      exact ⟨rfl, HS.out⟩

end Eql
end Go.Proofs.Ytldipjlepofdgaa
