/- The walks of sbox.each. -/
import Derived.Test.YtoblmddnefmpoaaBase
import Derived.Test.YtoblmddnefmpoaaField
import Derived.Test.YtoblmddnefmpoaaSbox
import Derived.Test.YtoblmddnefmpoaaSboxT
import Derived.Deep.OwnRows
import Derived.Deep.WholeRow
import Derived.Deep.Draws
import Derived.Deep.QuietTactic
import Derived.BigQuiet
import Derived.Laws.BytesArg
namespace Go.Proofs.Ytoblmddnefmpoaa
open Go.RowKit
namespace Sbox
attribute [local irreducible] Gf.mul Gf.inv Gf.pow Gf.logN Gf.logB Gf.xt turn mixK mix sub back backIn

theorem info5 : (Try.prog.info? 5).map (fun i => (i.zero, i.size, i.bytes)) = some (some (Value.int IntKind.u8 0), 1, 1) := by kernel_rfl
/-- 256 times false -/
def fs : Array Value := Array.replicate 256 (.bool false)
theorem zero44 (w : World) : (zeroValue 83).run Try.prog w = .ok (.agg fs) w := by kernel_rfl
theorem fs_size : fs.size = 256 := by simp [fs]
theorem fs_at (i : Nat) (h : i < 256) : fs[i]? = some (.bool false) := by simp [fs, h]
attribute [local irreducible] fs zs

set_option maxRecDepth 100000 in
set_option maxHeartbeats 2000000 in
theorem each_sub (s : ByteArray) (w : World) (hm : s.size ≤ 140737488355328) : Calls Try.prog 79 #[.string s, .func (.func 80) #[] #[]] w fun e w' => e = .returned (.string (strOfNums (s.data.toList.map fun c => ((sub c.toNat : Nat) : Int)))) ∧ Since w w' := by
  have hmk : ∀ w : World, (Instr.makeSlice 69 (.int .i64 (s.size : Int)) (.int .i64 (s.size : Int))).run Try.prog w = .ok (.slice (some ⟨w.heap.size, 0, none⟩) s.size s.size) (w.alloc (.cells (madeCells #[.int .u8 0] s.size) 5)) := fun w =>
    run_make_row' (P := Try.prog) 69 5 (.int .u8 0) 1 Try.underlying69 info5 rfl .i64 .i64 s.size (by omega) (by omega) w
  have hz1 := zero41
  have hz2 := zero44
  go_enter Try.func79, Try.ntmps79
  go_wp2_with fail
  clear hmk hz1 hz2
  go_loopw [15] (fun i wr => ∃ k : Nat, k ≤ s.size ∧ i = .int .i64 (k : Int) ∧ ∃ f1 f2 : Nat → Value, Hid (wr.rowIs w.heap.size 82 256 f1) ∧ Hid (wr.rowIs (w.heap.size + 1) 83 256 f2) ∧
      Hid (wr.rowIs (w.heap.size + 1 + 1) 5 s.size (fun j => if j < k then .int .u8 ((sub (s.data.toList.getD j 0).toNat : Nat) : Int) else .int .u8 0)) ∧
      Hid (∀ c, c < 256 → f2 c = .bool false ∨ (f2 c = .bool true ∧ f1 c = .int .u8 ((sub c : Nat) : Int))) ∧ Hid (Since w wr)) (fun i _ => s.size - (intOf i).toNat)
  case atStart =>
    have r1 : (w.alloc (.cells zs 82)).rowIs w.heap.size 82 256 (fun _ => .int .u8 0) := by
      have h := World.rowIs_alloc w zs 82 (fun _ => .int .u8 0) (fun i hi => zs_at i (by rw [zs_size] at hi; exact hi))
      rwa [zs_size] at h
    have r2 : ((w.alloc (.cells zs 82)).alloc (.cells fs 83)).rowIs (w.heap.size + 1) 83 256 (fun _ => .bool false) := by
      have h := World.rowIs_alloc (w.alloc (.cells zs 82)) fs 83 (fun _ => .bool false) (fun i hi => fs_at i (by rw [fs_size] at hi; exact hi))
      rw [fs_size] at h
      simpa using h
    refine ⟨0, by omega, rfl, _, _, Lib.hid ((r1.alloc _).alloc _), Lib.hid (r2.alloc _), Lib.hid ?_, Lib.hid (fun c _ => Or.inl rfl), Lib.hid (((Since.refl w).alloc _).alloc _ |>.alloc _)⟩
    have r3 := World.rowIs_made ((w.alloc (.cells zs 82)).alloc (.cells fs 83)) (.int .u8 0) s.size 5
    have r4 := r3.congr (g := fun j => if j < 0 then .int .u8 ((sub (s.data.toList.getD j 0).toNat : Nat) : Int) else .int .u8 0) (fun j _ => by simp)
    simpa using r4
  case round =>
    obtain ⟨k, hk, rfl, f1, f2, HR1, HR2, HR3, HK, HS⟩ := hrel
    by_cases hlt : k < s.size
    · obtain ⟨c, hc⟩ : ∃ c, c = s[k].toNat := ⟨_, rfl⟩
      have hc256 : c < 256 := by rw [hc]; exact s[k].toNat_lt
      have hgd : (s.data.toList.getD k 0).toNat = c := by
        rw [hc]; congr 1; simp [List.getD, List.getElem?_eq_getElem (show k < s.data.toList.length from hlt)]; rfl
      have hc' : s[k].toNat = c := hc.symm
      clear hc
      have HGD := Lib.hid hgd
      clear hgd
      have hl2 := HR2.out.cell (i := c) hc256
      have hz2 := HR2.out.frozen c
      rcases HK.out c hc256 with hf | ⟨hf, hg⟩
      · rw [hf] at hl2
        clear hf
        go_wp2_with fail
        refine (sub_rdr c (by omega) _).mono ?_
        rintro e w3 ⟨rfl, q, hq⟩
        have R1 := rdr_row HR1.out hq
        have R2 := rdr_row HR2.out hq
        have R3 := rdr_row HR3.out hq
        have S3 := rdr_since HS.out hq
        have ca1 := R1.cell (i := c) hc256
        have fa1 := R1.frozen c
        have Q1 := R1.set c (.int .u8 ((sub c : Nat) : Int))
        have Q2 := R2.setOther (a := ⟨w.heap.size, c, none⟩) (by simp) (.int .u8 ((sub c : Nat) : Int))
        have Q3 := R3.setOther (a := ⟨w.heap.size, c, none⟩) (by simp; omega) (.int .u8 ((sub c : Nat) : Int))
        have ca2 := Q2.cell (i := c) hc256
        have fa2 := Q2.frozen c
        have P1 := Q1.setOther (a := ⟨w.heap.size + 1, c, none⟩) (by simp) (.bool true)
        have P2 := Q2.set c (.bool true)
        have P3 := Q3.setOther (a := ⟨w.heap.size + 1, c, none⟩) (by simp) (.bool true)
        have ca3 := P1.cell (i := c) hc256
        rw [if_pos rfl] at ca3
        have ca4 := P3.cell (i := k) hlt
        have fa4 := P3.frozen k
        have HP1 := Lib.hid P1
        have HP2 := Lib.hid P2
        have HP3 := Lib.hid P3
        have HS3 := Lib.hid S3
        clear P1 P2 P3 Q1 Q2 Q3 R1 R2 R3 S3 hq
        have HCF := Lib.hid (show Since w ((w3.setCell ⟨w.heap.size, c, none⟩ (.int .u8 ((sub c : Nat) : Int))).setCell ⟨w.heap.size + 1, c, none⟩ (.bool true)) from
          Below.setCell (Below.setCell HS3.out (p := ⟨w.heap.size, c, none⟩) (Nat.le_refl _) _) (p := ⟨w.heap.size + 1, c, none⟩) (by simp) _)
        go_wp2_with fail
        go_roundw
        case rel =>
          refine ⟨k + 1, by omega, by go_num, _, _, Lib.hid (HP1.out.setOther (a := ⟨w.heap.size + 1 + 1, k, none⟩) (by simp; omega) _), Lib.hid (HP2.out.setOther (a := ⟨w.heap.size + 1 + 1, k, none⟩) (by simp) _), Lib.hid ((HP3.out.set k _).congr fun j hj => ?_), Lib.hid (fun d hd => ?_), Lib.hid (Below.setCell HCF.out (p := ⟨w.heap.size + 1 + 1, k, none⟩) (by simp; omega) _)⟩
          · by_cases h1 : j = k
            · subst h1; rw [if_pos rfl, if_pos (by omega), HGD.out]
            · by_cases h2 : j < k
              · simp [h1, h2, show j < k + 1 from by omega]
              · simp [h1, h2, show ¬ j < k + 1 from by omega]
          · by_cases hd2 : d = c
            · subst hd2; right; simp
            · rcases HK.out d hd with h | ⟨h, h'⟩
              · left; simp [hd2, h]
              · right; simp [hd2, h, h']
        case measure => simp [intOf]; omega
      · rw [hf] at hl2
        have hl1 := HR1.out.cell (i := c) hc256
        rw [hg] at hl1
        have ca4 := HR3.out.cell (i := k) hlt
        have fa4 := HR3.out.frozen k
        clear hf hg
        go_wp2_with fail
        go_roundw
        case rel =>
          refine ⟨k + 1, by omega, by go_num, f1, f2, Lib.hid (HR1.out.setOther (a := ⟨w.heap.size + 1 + 1, k, none⟩) (by simp; omega) _), Lib.hid (HR2.out.setOther (a := ⟨w.heap.size + 1 + 1, k, none⟩) (by simp) _), Lib.hid ((HR3.out.set k _).congr fun j hj => ?_), HK, Lib.hid (Below.setCell HS.out (p := ⟨w.heap.size + 1 + 1, k, none⟩) (by simp; omega) _)⟩
          by_cases h1 : j = k
          · subst h1; rw [if_pos rfl, if_pos (by omega), HGD.out]
          · by_cases h2 : j < k
            · simp [h1, h2, show j < k + 1 from by omega]
            · simp [h1, h2, show ¬ j < k + 1 from by omega]
        case measure => simp [intOf]; omega
    · obtain rfl : k = s.size := by omega
      have g := run_convert_bytes_arg (P := Try.prog) wr 69 5 Try.underlying69 Try.underlying5 (w.heap.size + 1 + 1) 0 s.size s.size (s.data.toList.map fun c => ((sub c.toNat : Nat) : Int)) (by simp) (fun i hi => by
        rw [Nat.zero_add, HR3.out.cell hi, if_pos hi]; simp [List.getD, List.getElem?_eq_getElem (show i < s.data.toList.length from hi)]) 9 Try.underlying9
      go_wp2_with fail
      go_ret
      exact ⟨rfl, HS.out⟩

set_option maxRecDepth 100000 in
set_option maxHeartbeats 2000000 in
theorem each_back (s : ByteArray) (w : World) (hm : s.size ≤ 140737488355328) : Calls Try.prog 79 #[.string s, .func (.func 82) #[] #[]] w fun e w' => e = .returned (.string (strOfNums (s.data.toList.map fun c => ((back c.toNat : Nat) : Int)))) ∧ Since w w' := by
  have hmk : ∀ w : World, (Instr.makeSlice 69 (.int .i64 (s.size : Int)) (.int .i64 (s.size : Int))).run Try.prog w = .ok (.slice (some ⟨w.heap.size, 0, none⟩) s.size s.size) (w.alloc (.cells (madeCells #[.int .u8 0] s.size) 5)) := fun w =>
    run_make_row' (P := Try.prog) 69 5 (.int .u8 0) 1 Try.underlying69 info5 rfl .i64 .i64 s.size (by omega) (by omega) w
  have hz1 := zero41
  have hz2 := zero44
  go_enter Try.func79, Try.ntmps79
  go_wp2_with fail
  clear hmk hz1 hz2
  go_loopw [15] (fun i wr => ∃ k : Nat, k ≤ s.size ∧ i = .int .i64 (k : Int) ∧ ∃ f1 f2 : Nat → Value, Hid (wr.rowIs w.heap.size 82 256 f1) ∧ Hid (wr.rowIs (w.heap.size + 1) 83 256 f2) ∧
      Hid (wr.rowIs (w.heap.size + 1 + 1) 5 s.size (fun j => if j < k then .int .u8 ((back (s.data.toList.getD j 0).toNat : Nat) : Int) else .int .u8 0)) ∧
      Hid (∀ c, c < 256 → f2 c = .bool false ∨ (f2 c = .bool true ∧ f1 c = .int .u8 ((back c : Nat) : Int))) ∧ Hid (Since w wr)) (fun i _ => s.size - (intOf i).toNat)
  case atStart =>
    have r1 : (w.alloc (.cells zs 82)).rowIs w.heap.size 82 256 (fun _ => .int .u8 0) := by
      have h := World.rowIs_alloc w zs 82 (fun _ => .int .u8 0) (fun i hi => zs_at i (by rw [zs_size] at hi; exact hi))
      rwa [zs_size] at h
    have r2 : ((w.alloc (.cells zs 82)).alloc (.cells fs 83)).rowIs (w.heap.size + 1) 83 256 (fun _ => .bool false) := by
      have h := World.rowIs_alloc (w.alloc (.cells zs 82)) fs 83 (fun _ => .bool false) (fun i hi => fs_at i (by rw [fs_size] at hi; exact hi))
      rw [fs_size] at h
      simpa using h
    refine ⟨0, by omega, rfl, _, _, Lib.hid ((r1.alloc _).alloc _), Lib.hid (r2.alloc _), Lib.hid ?_, Lib.hid (fun c _ => Or.inl rfl), Lib.hid (((Since.refl w).alloc _).alloc _ |>.alloc _)⟩
    have r3 := World.rowIs_made ((w.alloc (.cells zs 82)).alloc (.cells fs 83)) (.int .u8 0) s.size 5
    have r4 := r3.congr (g := fun j => if j < 0 then .int .u8 ((back (s.data.toList.getD j 0).toNat : Nat) : Int) else .int .u8 0) (fun j _ => by simp)
    simpa using r4
  case round =>
    obtain ⟨k, hk, rfl, f1, f2, HR1, HR2, HR3, HK, HS⟩ := hrel
    by_cases hlt : k < s.size
    · obtain ⟨c, hc⟩ : ∃ c, c = s[k].toNat := ⟨_, rfl⟩
      have hc256 : c < 256 := by rw [hc]; exact s[k].toNat_lt
      have hgd : (s.data.toList.getD k 0).toNat = c := by
        rw [hc]; congr 1; simp [List.getD, List.getElem?_eq_getElem (show k < s.data.toList.length from hlt)]; rfl
      have hc' : s[k].toNat = c := hc.symm
      clear hc
      have HGD := Lib.hid hgd
      clear hgd
      have hl2 := HR2.out.cell (i := c) hc256
      have hz2 := HR2.out.frozen c
      rcases HK.out c hc256 with hf | ⟨hf, hg⟩
      · rw [hf] at hl2
        clear hf
        go_wp2_with fail
        refine (back_rdr c (by omega) _).mono ?_
        rintro e w3 ⟨rfl, q, hq⟩
        have R1 := rdr_row HR1.out hq
        have R2 := rdr_row HR2.out hq
        have R3 := rdr_row HR3.out hq
        have S3 := rdr_since HS.out hq
        have ca1 := R1.cell (i := c) hc256
        have fa1 := R1.frozen c
        have Q1 := R1.set c (.int .u8 ((back c : Nat) : Int))
        have Q2 := R2.setOther (a := ⟨w.heap.size, c, none⟩) (by simp) (.int .u8 ((back c : Nat) : Int))
        have Q3 := R3.setOther (a := ⟨w.heap.size, c, none⟩) (by simp; omega) (.int .u8 ((back c : Nat) : Int))
        have ca2 := Q2.cell (i := c) hc256
        have fa2 := Q2.frozen c
        have P1 := Q1.setOther (a := ⟨w.heap.size + 1, c, none⟩) (by simp) (.bool true)
        have P2 := Q2.set c (.bool true)
        have P3 := Q3.setOther (a := ⟨w.heap.size + 1, c, none⟩) (by simp) (.bool true)
        have ca3 := P1.cell (i := c) hc256
        rw [if_pos rfl] at ca3
        have ca4 := P3.cell (i := k) hlt
        have fa4 := P3.frozen k
        have HP1 := Lib.hid P1
        have HP2 := Lib.hid P2
        have HP3 := Lib.hid P3
        have HS3 := Lib.hid S3
        clear P1 P2 P3 Q1 Q2 Q3 R1 R2 R3 S3 hq
        have HCF := Lib.hid (show Since w ((w3.setCell ⟨w.heap.size, c, none⟩ (.int .u8 ((back c : Nat) : Int))).setCell ⟨w.heap.size + 1, c, none⟩ (.bool true)) from
          Below.setCell (Below.setCell HS3.out (p := ⟨w.heap.size, c, none⟩) (Nat.le_refl _) _) (p := ⟨w.heap.size + 1, c, none⟩) (by simp) _)
        go_wp2_with fail
        go_roundw
        case rel =>
          refine ⟨k + 1, by omega, by go_num, _, _, Lib.hid (HP1.out.setOther (a := ⟨w.heap.size + 1 + 1, k, none⟩) (by simp; omega) _), Lib.hid (HP2.out.setOther (a := ⟨w.heap.size + 1 + 1, k, none⟩) (by simp) _), Lib.hid ((HP3.out.set k _).congr fun j hj => ?_), Lib.hid (fun d hd => ?_), Lib.hid (Below.setCell HCF.out (p := ⟨w.heap.size + 1 + 1, k, none⟩) (by simp; omega) _)⟩
          · by_cases h1 : j = k
            · subst h1; rw [if_pos rfl, if_pos (by omega), HGD.out]
            · by_cases h2 : j < k
              · simp [h1, h2, show j < k + 1 from by omega]
              · simp [h1, h2, show ¬ j < k + 1 from by omega]
          · by_cases hd2 : d = c
            · subst hd2; right; simp
            · rcases HK.out d hd with h | ⟨h, h'⟩
              · left; simp [hd2, h]
              · right; simp [hd2, h, h']
        case measure => simp [intOf]; omega
      · rw [hf] at hl2
        have hl1 := HR1.out.cell (i := c) hc256
        rw [hg] at hl1
        have ca4 := HR3.out.cell (i := k) hlt
        have fa4 := HR3.out.frozen k
        clear hf hg
        go_wp2_with fail
        go_roundw
        case rel =>
          refine ⟨k + 1, by omega, by go_num, f1, f2, Lib.hid (HR1.out.setOther (a := ⟨w.heap.size + 1 + 1, k, none⟩) (by simp; omega) _), Lib.hid (HR2.out.setOther (a := ⟨w.heap.size + 1 + 1, k, none⟩) (by simp) _), Lib.hid ((HR3.out.set k _).congr fun j hj => ?_), HK, Lib.hid (Below.setCell HS.out (p := ⟨w.heap.size + 1 + 1, k, none⟩) (by simp; omega) _)⟩
          by_cases h1 : j = k
          · subst h1; rw [if_pos rfl, if_pos (by omega), HGD.out]
          · by_cases h2 : j < k
            · simp [h1, h2, show j < k + 1 from by omega]
            · simp [h1, h2, show ¬ j < k + 1 from by omega]
        case measure => simp [intOf]; omega
    · obtain rfl : k = s.size := by omega
      have g := run_convert_bytes_arg (P := Try.prog) wr 69 5 Try.underlying69 Try.underlying5 (w.heap.size + 1 + 1) 0 s.size s.size (s.data.toList.map fun c => ((back c.toNat : Nat) : Int)) (by simp) (fun i hi => by
        rw [Nat.zero_add, HR3.out.cell hi, if_pos hi]; simp [List.getD, List.getElem?_eq_getElem (show i < s.data.toList.length from hi)]) 9 Try.underlying9
      go_wp2_with fail
      go_ret
      exact ⟨rfl, HS.out⟩

theorem subs_mak (s : ByteArray) (hm : s.size ≤ 140737488355328) : Mak 64 #[.string s] (.string (strOfNums (s.data.toList.map fun c => ((sub c.toNat : Nat) : Int)))) := by
  intro w
  have hc := each_sub s w hm
  generalize strOfNums (s.data.toList.map fun c => ((sub c.toNat : Nat) : Int)) = x at hc
  have HC := Lib.hid hc
  clear hc
  go_enter Try.func64, Try.ntmps64
  go_wp2_with fail
  refine HC.out.mono ?_
  rintro e w1 ⟨rfl, h1⟩
  have H1 := Lib.hid h1
  clear h1
  go_wp2_with fail
  go_ret
  exact ⟨rfl, H1.out⟩
theorem backs_mak (s : ByteArray) (hm : s.size ≤ 140737488355328) : Mak 66 #[.string s] (.string (strOfNums (s.data.toList.map fun c => ((back c.toNat : Nat) : Int)))) := by
  intro w
  have hc := each_back s w hm
  generalize strOfNums (s.data.toList.map fun c => ((back c.toNat : Nat) : Int)) = x at hc
  have HC := Lib.hid hc
  clear hc
  go_enter Try.func66, Try.ntmps66
  go_wp2_with fail
  refine HC.out.mono ?_
  rintro e w1 ⟨rfl, h1⟩
  have H1 := Lib.hid h1
  clear h1
  go_wp2_with fail
  go_ret
  exact ⟨rfl, H1.out⟩

end Sbox
end Go.Proofs.Ytoblmddnefmpoaa
