/- The walks of sbox.Table and sbox.each. -/
import Derived.Test.YtoblmddnefmpoaaBase
import Derived.Test.YtoblmddnefmpoaaField
import Derived.Test.YtoblmddnefmpoaaSbox
import Derived.Deep.OwnRows
import Derived.Deep.WholeRow
import Derived.Deep.Draws
import Derived.Deep.QuietTactic
import Derived.BigQuiet
import Derived.Laws.BytesArg
namespace Go.Proofs.Ytoblmddnefmpoaa
open Go.RowKit
namespace Sbox
attribute [local irreducible] Gf.mul Gf.inv Gf.pow Gf.logN Gf.logB Gf.xt turn mixK mix sub back backIn

/-- 256 zero bytes -/
def zs : Array Value := Array.replicate 256 (.int .u8 0)
theorem zero41 (w : World) : (zeroValue 82).run Try.prog w = .ok (.agg zs) w := by kernel_rfl
theorem zs_ne : (zs = #[]) = False := by simp [zs]
theorem zs_size : zs.size = 256 := by simp [zs]
theorem zs_at (i : Nat) (h : i < 256) : zs[i]? = some (.int .u8 0) := by simp [zs, h]
theorem zs_one (v : Int) : (zs.setIfInBounds 0 (.int .u8 v)).all (·.oneCell') = true := by
  rw [Array.all_eq_true]
  intro i hi
  rw [Array.getElem_setIfInBounds (by simpa using hi)]
  split
  · rfl
  · have h9 : ∀ x ∈ zs, x = .int .u8 0 := fun x hx => by unfold zs at hx; exact (Array.mem_replicate.1 hx).2
    rw [h9 _ (Array.getElem_mem _)]; rfl
attribute [local irreducible] zs
theorem store41 (W : World) (v : Int) : (storeCells ⟨W.heap.size, 0, none⟩ (zs.toList.set 0 (.int .u8 v))).run Try.prog (W.alloc (.cells zs 82)) = .ok () (W.alloc (.cells (zs.setIfInBounds 0 (.int .u8 v)) 82)) := by
  have hi : (Try.prog.info? 82).map (·.size) = some 256 := by kernel_rfl
  have h := run_storeCells_new (P := Try.prog) W 82 zs (zs.setIfInBounds 0 (.int .u8 v)) (by rw [Array.size_setIfInBounds, zs_size]; exact hi) (by rw [Array.size_setIfInBounds]) (zs_one v)
  rwa [Array.toList_setIfInBounds] at h

def tabF (k j : Nat) : Value := if j = 0 ∨ (Gf.logB j = true ∧ Gf.logN j < k) then .int .u8 ((sub j : Nat) : Int) else .int .u8 0
theorem sub_mix (a : Nat) : sub a = mix (Gf.inv a) := by unfold sub; rfl
theorem slice41 (b : Nat) (w : World) : (Instr.sliceAt 82 (.pointer (some ⟨b, 0, none⟩)) none none none).run Try.prog w = .ok (.slice (some ⟨b, 0, none⟩) 256 256) w := by kernel_rfl
theorem mul_rdr (a b : Nat) (ha : a ≤ 255) (hb : b ≤ 255) : Rdr 84 #[.int .u8 (a : Int), .int .u8 (b : Int)] (.int .u8 ((Gf.mul a b : Nat) : Int)) := Rdr.of_ret fun w => by
  have h := Field.mul_any a b w (by omega) (by omega) (by omega) (by omega)
  rwa [Int.toNat_natCast, Int.toNat_natCast] at h
theorem rdr_row {w w' : World} {q b t n : Nat} {f : Nat → Value} (h : w.rowIs b t n f) (hq : w' = w.drewN q) : w'.rowIs b t n f := by subst hq; exact h
theorem rdr_since {w0 w w' : World} {q : Nat} (h : Since w0 w) (hq : w' = w.drewN q) : Since w0 w' := by subst hq; exact h.step ⟨rfl, rfl, rfl, Nat.le_refl _, fun _ _ => rfl⟩

end Sbox
end Go.Proofs.Ytoblmddnefmpoaa
