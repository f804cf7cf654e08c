/- The walks of sbox.Table and sbox.each. -/
import Derived.Test.YtcdjpdncgaeinaaBase
import Derived.Test.YtcdjpdncgaeinaaField
import Derived.Test.YtcdjpdncgaeinaaSbox
import Derived.Deep.OwnRows
import Derived.Deep.WholeRow
import Derived.Deep.Draws
import Derived.Deep.QuietTactic
import Derived.BigQuiet
import Derived.Laws.BytesArg
namespace Go.Proofs.Ytcdjpdncgaeinaa
open Go.RowKit
namespace Sbox
attribute [local irreducible] Gf.mul Gf.inv Gf.pow Gf.logN Gf.logB Gf.xt turn mixK mix sub back backIn

/-- 256 zero bytes -/
def zs : Array Value := Array.replicate 256 (.int .u8 0)
theorem zero41 (w : World) : (zeroValue 41).run Try.prog w = .ok (.agg zs) w := by kernel_rfl
theorem zs_ne : (zs = #[]) = False := by simp [zs]
theorem zs_size : zs.size = 256 := by simp [zs]
theorem zs_at (i : Nat) (h : i < 256) : zs[i]? = some (.int .u8 0) := by simp [zs, h]
theorem zs_one (v : Int) : (zs.setIfInBounds 0 (.int .u8 v)).all (·.oneCell') = true := by
  rw [Array.all_eq_true]
  intro i hi
  rw [Array.getElem_setIfInBounds (by simpa using hi)]
  split
  · rfl
  · have h9 : ∀ x ∈ zs, x = .int .u8 0 := fun x hx => by unfold zs at hx; exact (Array.mem_replicate.1 hx).2
    rw [h9 _ (Array.getElem_mem _)]; rfl
attribute [local irreducible] zs
theorem store41 (W : World) (v : Int) : (storeCells ⟨W.heap.size, 0, none⟩ (zs.toList.set 0 (.int .u8 v))).run Try.prog (W.alloc (.cells zs 41)) = .ok () (W.alloc (.cells (zs.setIfInBounds 0 (.int .u8 v)) 41)) := by
  have hi : (Try.prog.info? 41).map (·.size) = some 256 := by kernel_rfl
  have h := run_storeCells_new (P := Try.prog) W 41 zs (zs.setIfInBounds 0 (.int .u8 v)) (by rw [Array.size_setIfInBounds, zs_size]; exact hi) (by rw [Array.size_setIfInBounds]) (zs_one v)
  rwa [Array.toList_setIfInBounds] at h

def tabF (k j : Nat) : Value := if j = 0 ∨ (Gf.logB j = true ∧ Gf.logN j < k) then .int .u8 ((sub j : Nat) : Int) else .int .u8 0
theorem sub_mix (a : Nat) : sub a = mix (Gf.inv a) := by unfold sub; rfl
theorem slice41 (b : Nat) (w : World) : (Instr.sliceAt 41 (.pointer (some ⟨b, 0, none⟩)) none none none).run Try.prog w = .ok (.slice (some ⟨b, 0, none⟩) 256 256) w := by kernel_rfl
theorem mul_rdr (a b : Nat) (ha : a ≤ 255) (hb : b ≤ 255) : Rdr 15 #[.int .u8 (a : Int), .int .u8 (b : Int)] (.int .u8 ((Gf.mul a b : Nat) : Int)) := Rdr.of_ret fun w => by
  have h := Field.mul_any a b w (by omega) (by omega) (by omega) (by omega)
  rwa [Int.toNat_natCast, Int.toNat_natCast] at h
theorem rdr_row {w w' : World} {q b t n : Nat} {f : Nat → Value} (h : w.rowIs b t n f) (hq : w' = w.drewN q) : w'.rowIs b t n f := by subst hq; exact h
theorem rdr_since {w0 w w' : World} {q : Nat} (h : Since w0 w) (hq : w' = w.drewN q) : Since w0 w' := by subst hq; exact h.step ⟨rfl, rfl, rfl, Nat.le_refl _, fun _ _ => rfl⟩

set_option maxRecDepth 100000 in
set_option maxHeartbeats 1000000 in
theorem table_any (w : World) : Calls Try.prog 35 #[] w fun e w' => e = .returned (.string (strOfNums ((List.range 256).map fun j => ((sub j : Nat) : Int)))) ∧ Since w w' := by
  have H0 := Lib.hid (Since.refl w)
  have hz := zero41
  have hne := zs_ne
  have hsz := zs_size
  have hst := fun W => store41 W ((sub 0 : Nat) : Int)
  go_enter Try.func35, Try.ntmps35
  go_wp2_with fail
  refine (sub_rdr 0 (by omega)).mak.calls H0.out ?_
  intro w1 h1
  have H1 := Lib.hid h1
  clear h1
  go_wp2_with fail
  have hrow : (w1.alloc (.cells (zs.setIfInBounds 0 (.int .u8 ((sub 0 : Nat) : Int))) 41)).rowIs w1.heap.size 41 256 (tabF 0) := by
    have h := World.rowIs_alloc w1 (zs.setIfInBounds 0 (.int .u8 ((sub 0 : Nat) : Int))) 41 (tabF 0) (fun i hi => by
      rw [Array.size_setIfInBounds, zs_size] at hi
      rw [Array.getElem?_setIfInBounds]
      by_cases h0 : i = 0
      · subst h0; rw [if_pos rfl, if_pos (by rw [zs_size]; omega)]; unfold tabF; rw [if_pos (Or.inl rfl)]
      · rw [if_neg (fun h => h0 h.symm), zs_at i hi]; unfold tabF; rw [if_neg (by omega)])
    rwa [Array.size_setIfInBounds, zs_size] at h
  have HR0 := Lib.hid hrow
  clear hrow hz hne hsz hst
  obtain ⟨B, hB⟩ : ∃ B, B = w1.heap.size := ⟨_, rfl⟩
  have hBw : w.heap.size ≤ B := by rw [hB]; exact Below.size H1.out
  rw [← hB] at HR0
  have HB := Lib.hid hB
  have hcall := inv_rdr 3 (by omega)
  refine (hcall _).mono ?_
  rintro e w2 ⟨rfl, q, hq⟩
  have HR1 := Lib.hid (rdr_row HR0.out hq)
  have HS1 := Lib.hid (rdr_since (H1.out.alloc _) hq)
  clear hq hcall
  rw [← hB]
  clear hB
  have hi3 := Gf.inv_lt 3
  obtain ⟨V, hV⟩ : ∃ V, V = Gf.inv 3 := ⟨_, rfl⟩
  rw [← hV]
  rw [← hV] at hi3
  have HV := Lib.hid hV
  clear hV
  go_wp2_with fail
  go_loopw [3, 4, 8] (fun p i n wr => ∃ k : Nat, k ≤ 255 ∧ n = .int .i64 (k : Int) ∧ p = .int .u8 ((Gf.ipw 3 k : Nat) : Int) ∧ i = .int .u8 ((Gf.ipw V k : Nat) : Int) ∧ Hid (wr.rowIs B 41 256 (tabF k)) ∧ Hid (Since w wr)) (fun _ _ n _ => 255 - (intOf n).toNat)
  case atStart => exact ⟨0, by omega, rfl, rfl, rfl, HR1, HS1⟩
  case round =>
    obtain ⟨k, hk, rfl, rfl, rfl, HR, HS⟩ := hrel
    have hp := Gf.ipw_lt 3 k
    have hv := Gf.ipw_lt V k
    by_cases hlt : k < 255
    · obtain ⟨t1, t2, t3, t4⟩ := tab_at k hlt
      rw [← HV.out] at t4
      have hs3 : Gf.ipw 3 (k + 1) = Gf.mul (Gf.ipw 3 k) 3 := by with_unfolding_all rfl
      have hsv : Gf.ipw V (k + 1) = Gf.mul (Gf.ipw V k) V := by with_unfolding_all rfl
      have hsub := sub_mix (Gf.ipw 3 k)
      rw [← t4] at hsub
      obtain ⟨p, hpe⟩ : ∃ p, p = Gf.ipw 3 k := ⟨_, rfl⟩
      obtain ⟨v, hve⟩ : ∃ v, v = Gf.ipw V k := ⟨_, rfl⟩
      rw [← hpe] at t1 t2 t3 hs3 hsub hp
      rw [← hve] at hsv hsub hv
      rw [← hpe, ← hve]
      have HP := Lib.hid (And.intro t1 (And.intro t2 (And.intro hs3 (And.intro hsv (And.intro hsub (And.intro hpe hve))))))
      clear t1 t2 t3 t4 hs3 hsv hsub hpe hve
      have c1 := mixed_rdr v (by omega)
      have c2 := mul_rdr p 3 (by omega) (by omega)
      have c3 := mul_rdr v V (by omega) (by omega)
      go_wp2_with fail
      refine (c1 _).mono ?_
      rintro e w3 ⟨rfl, q3, hq3⟩
      have HR3 := Lib.hid (rdr_row HR.out hq3)
      have HS3 := Lib.hid (rdr_since HS.out hq3)
      clear hq3
      have hc := HR3.out.cell (i := p) hp
      have hf := HR3.out.frozen p
      have HC := Lib.hid hc
      go_wp2_with fail
      have HR4 := Lib.hid (HR3.out.set p (.int .u8 ((mix v : Nat) : Int)))
      have HS4 := Lib.hid (show Since w (w3.setCell ⟨B, p, none⟩ (.int .u8 ((mix v : Nat) : Int))) from Below.setCell HS3.out (p := ⟨B, p, none⟩) hBw _)
      refine (c2 _).mono ?_
      rintro e w5 ⟨rfl, q5, hq5⟩
      have HR5 := Lib.hid (rdr_row HR4.out hq5)
      have HS5 := Lib.hid (rdr_since HS4.out hq5)
      clear hq5
      go_wp2_with fail
      refine (c3 _).mono ?_
      rintro e w6 ⟨rfl, q6, hq6⟩
      have HR6 := Lib.hid (rdr_row HR5.out hq6)
      have HS6 := Lib.hid (rdr_since HS5.out hq6)
      clear hq6
      go_wp2_with fail
      go_roundw
      case rel =>
        obtain ⟨t1, t2, hs3, hsv, hsub, hpe, hve⟩ := HP.out
        refine ⟨k + 1, by omega, by go_num, by rw [hs3], by rw [hsv], Lib.hid (HR6.out.congr fun j hj => ?_), HS6⟩
        unfold tabF
        by_cases hjp : j = p
        · subst hjp
          rw [if_pos rfl, if_pos (Or.inr ⟨t2, by omega⟩), hsub]
        · rw [if_neg hjp]
          by_cases h0 : j = 0
          · rw [if_pos (Or.inl h0), if_pos (Or.inl h0)]
          · by_cases hl : Gf.logN j < k
            · by_cases hb : Gf.logB j = true
              · rw [if_pos (Or.inr ⟨hb, hl⟩), if_pos (Or.inr ⟨hb, by omega⟩)]
              · rw [if_neg (fun h => h.elim h0 (fun h => hb h.1)), if_neg (fun h => h.elim h0 (fun h => hb h.1))]
            · have hn : ¬ Gf.logN j < k + 1 := fun h => by
                obtain ⟨_, _, l3⟩ := log_ipw j hj h0
                exact hjp (by rw [← l3, show Gf.logN j = k from by omega]; exact hpe.symm)
              rw [if_neg (fun h => h.elim h0 (fun h => hl h.2)), if_neg (fun h => h.elim h0 (fun h => hn h.2))]
      case measure => simp [intOf]; omega
    · obtain rfl : k = 255 := by omega
      have hsl := slice41 B
      have g := run_convert_bytes_arg (P := Try.prog) wr 40 5 Try.underlying40 Try.underlying5 B 0 256 256 ((List.range 256).map fun j => ((sub j : Nat) : Int)) (by simp) (fun i hi => by
        rw [Nat.zero_add, HR.out.cell hi]
        have h9 : tabF 255 i = .int .u8 ((sub i : Nat) : Int) := by
          unfold tabF
          by_cases h0 : i = 0
          · rw [if_pos (Or.inl h0)]
          · obtain ⟨l1, l2, _⟩ := log_ipw i hi h0
            rw [if_pos (Or.inr ⟨l1, l2⟩)]
        rw [h9]; simp [List.getD, hi]) 9 Try.underlying9
      obtain ⟨S, hS⟩ : ∃ S, S = strOfNums ((List.range 256).map fun j => ((sub j : Nat) : Int)) := ⟨_, rfl⟩
      rw [← hS] at g
      have HSS := Lib.hid hS
      clear hS
      go_wp2_with fail
      go_ret
      rw [← HSS.out]
      exact ⟨rfl, HS.out⟩

end Sbox
end Go.Proofs.Ytcdjpdncgaeinaa
