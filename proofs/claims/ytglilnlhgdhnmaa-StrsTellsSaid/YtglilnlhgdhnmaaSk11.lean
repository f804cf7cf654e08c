/- Joined texts. -/
-- PACK: YtglilnlhgdhnmaaSboxT YtglilnlhgdhnmaaSboxE
import Derived.Test.YtglilnlhgdhnmaaSk5
import Derived.Test.YtglilnlhgdhnmaaSk4
import Derived.Test.YtglilnlhgdhnmaaSk10
import Derived.Deep.OwnRows
import Derived.Deep.WholeRow
import Derived.Deep.Draws
import Derived.Deep.QuietTactic
import Derived.BigQuiet
import Derived.Laws.BytesArg

/- The walks of sbox.Table and sbox.each. -/
namespace Go.Proofs.Ytglilnlhgdhnmaa
open Go.RowKit
namespace Sbox
attribute [local irreducible] Gf.mul Gf.inv Gf.pow Gf.logN Gf.logB Gf.xt turn mixK mix sub back backIn

/-- 256 zero bytes -/
def zs : Array Value := Array.replicate 256 (.int .u8 0)
theorem zs_ne : (zs = #[]) = False := by simp [zs]
theorem zs_size : zs.size = 256 := by simp [zs]
theorem zs_at (i : Nat) (h : i < 256) : zs[i]? = some (.int .u8 0) := by simp [zs, h]
theorem zs_one (v : Int) : (zs.setIfInBounds 0 (.int .u8 v)).all (·.oneCell') = true := by
  rw [Array.all_eq_true]
  intro i hi
  rw [Array.getElem_setIfInBounds (by simpa using hi)]
  split
  · rfl
  · have h9 : ∀ x ∈ zs, x = .int .u8 0 := fun x hx => by unfold zs at hx; exact (Array.mem_replicate.1 hx).2
    rw [h9 _ (Array.getElem_mem _)]; rfl
attribute [local irreducible] zs
def tabF (k j : Nat) : Value := if j = 0 ∨ (Gf.logB j = true ∧ Gf.logN j < k) then .int .u8 ((sub j : Nat) : Int) else .int .u8 0
theorem sub_mix (a : Nat) : sub a = mix (Gf.inv a) := by unfold sub; rfl
theorem rdr_row {w w' : World} {q b t n : Nat} {f : Nat → Value} (h : w.rowIs b t n f) (hq : w' = w.drewN q) : w'.rowIs b t n f := by subst hq; exact h
theorem rdr_since {w0 w w' : World} {q : Nat} (h : Since w0 w) (hq : w' = w.drewN q) : Since w0 w' := by subst hq; exact h.step ⟨rfl, rfl, rfl, Nat.le_refl _, fun _ _ => rfl⟩

end Sbox
end Go.Proofs.Ytglilnlhgdhnmaa

/- The walks of sbox.each. -/
namespace Go.Proofs.Ytglilnlhgdhnmaa
open Go.RowKit
namespace Sbox
attribute [local irreducible] Gf.mul Gf.inv Gf.pow Gf.logN Gf.logB Gf.xt turn mixK mix sub back backIn

set_option maxRecDepth 100000 in
theorem info5 : (Try.prog.info? 5).map (fun i => (i.zero, i.size, i.bytes)) = some (some (Value.int IntKind.u8 0), 1, 1) := by kernel_rfl
/-- 256 times false -/
def fs : Array Value := Array.replicate 256 (.bool false)
theorem fs_size : fs.size = 256 := by simp [fs]
theorem fs_at (i : Nat) (h : i < 256) : fs[i]? = some (.bool false) := by simp [fs, h]
attribute [local irreducible] fs zs

end Sbox
end Go.Proofs.Ytglilnlhgdhnmaa
