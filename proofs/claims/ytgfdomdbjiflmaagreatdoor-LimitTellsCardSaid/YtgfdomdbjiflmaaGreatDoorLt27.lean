/- Joined texts. -/
-- PACK: YtgfdomdbjiflmaaGreatDoorHeaderAwake
import Derived.Test.YtgfdomdbjiflmaaGreatDoorLt25
import Derived.Test.YtgfdomdbjiflmaaGreatDoorLt3
import Derived.Laws.StructEq
import Derived.Lib.SmallJoins

/- Layer 31: what the laws call awake. -/
namespace Go.Proofs.YtgfdomdbjiflmaaGreatDoor
open Go.RowKit
namespace Header
def awS : ByteArray := ⟨#[68, 48, 49, 49, 50, 75, 48, 65, 66, 48, 48, 69, 48, 48, 48, 48]⟩
theorem aw_dec : decE awS = 0 ∧ decV awS = C7 112 0 ⟨#[65]⟩ ⟨#[75, 48]⟩ ⟨#[66]⟩ ⟨#[48, 48]⟩ ⟨#[69]⟩ := by
  have hf : Form awS := by decide +kernel
  have hk : okS awS = true := by decide +kernel
  unfold decE decV
  rw [if_pos hf, if_pos hk, if_pos ⟨hf, hk⟩]
  have a1 : Dig.numD (awS.extract 1 5).data.toList = 112 := by decide +kernel
  have a2 : Dig.numD (awS.extract 12 14).data.toList = 0 := by decide +kernel
  have a3 : awS.extract 7 8 = ⟨#[65]⟩ := by decide +kernel
  have a4 : awS.extract 5 7 = ⟨#[75, 48]⟩ := by decide +kernel
  have a5 : awS.extract 8 9 = ⟨#[66]⟩ := by decide +kernel
  have a6 : awS.extract 9 11 = ⟨#[48, 48]⟩ := by decide +kernel
  have a7 : awS.extract 11 12 = ⟨#[69]⟩ := by decide +kernel
  rw [a1, a2, a3, a4, a5, a6, a7]
  exact ⟨rfl, rfl⟩
theorem aw_enc : encE 112 0 ⟨#[65]⟩ ⟨#[75, 48]⟩ ⟨#[66]⟩ ⟨#[48, 48]⟩ ⟨#[69]⟩ = 0 ∧ encX 112 0 ⟨#[65]⟩ ⟨#[75, 48]⟩ ⟨#[66]⟩ ⟨#[48, 48]⟩ ⟨#[69]⟩ = awS := by
  constructor
  · decide +kernel
  · apply ba_ext
    decide +kernel
set_option maxRecDepth 100000 in
theorem tabs_of {W : World} (h : laidMetH Tryz.prog [("claviger/kind.lines", Rows.laid_claviger_kind_lines), ("claviger/table.lines", Rows.laid_claviger_table_lines)] W) : KH W := by
  rw [MakeChecks.laidMetH_plain _ _ _ (by kernel_rfl)] at h
  obtain ⟨ps, ⟨g0, t0, cs0, f0, p0, q0, hg0, ht0, hv0, hd0, ⟨g1, t1, cs1, f1, p1, q1, hg1, ht1, hv1, hd1, _, _⟩, _⟩, _, _⟩ := h
  exact ⟨Table.tabs_at hg1 ht1 hv1 hd1, Kind.tabs_at hg0 ht0 hv0 hd0⟩
set_option maxRecDepth 100000 in
/-- a header's fields, out of a value -/
theorem header_read {H : Type} {enc : TypeId × Value → H} {w : World} {sp : Nat → Bool} {held : Bool} {r : Reach} {b0 : Nat} {x : Value} {d : DataW H} {ps : List MemPlace}
    (hv : Value.okWide Tryz.prog w r b0 67 x) (h : DataW.Trod enc Tryz.prog w 0 sp held 67 x d ps) :
    ∃ n l k u m v e, x = .agg #[.int .i64 n, .string l, .int .i64 k, .string u, .string m, .string v, .string e] ∧ (Lit.int .i64 n).wf = true ∧ l.size ≤ maxLen ∧ (Lit.int .i64 k).wf = true ∧ u.size ≤ maxLen ∧ m.size ≤ maxLen ∧ v.size ≤ maxLen ∧ e.size ≤ maxLen := by
  obtain ⟨cs, rfl, hsz⟩ := Go.WideShapes.okWide_struct Tryz.underlying67 hv
  have c7 : Tryz.prog.cellsOf 67 = 7 := by kernel_rfl
  have c4 : Tryz.prog.cellsOf 32 = 4 := by kernel_rfl
  have ci : Tryz.prog.cellsOf 3 = 1 := by kernel_rfl
  have cs1 : Tryz.prog.cellsOf 9 = 1 := by kernel_rfl
  rw [c7] at hsz
  obtain ⟨a0, a1, a2, a3, a4, a5, a6, rfl⟩ : ∃ a0 a1 a2 a3 a4 a5 a6, cs = #[a0, a1, a2, a3, a4, a5, a6] := by
    obtain ⟨l⟩ := cs
    match l, hsz with
    | [a0, a1, a2, a3, a4, a5, a6], _ => exact ⟨a0, a1, a2, a3, a4, a5, a6, rfl⟩
  obtain ⟨fuel, hf⟩ := h
  simp only [Value.cells] at hf
  obtain ⟨y0, y1, y2, y3, q, _, _, h0, h1, h2, h3⟩ := Go.Joins.trod_struct4 Tryz.underlying67 hf
  dsimp only at h0 h1 h2 h3
  rw [ci] at h0 h2
  rw [cs1] at h1
  rw [c4] at h3
  obtain ⟨z0, z1, z2, z3, q', _, _, k0, k1, k2, k3⟩ := Go.Joins.trod_struct4 Tryz.underlying32 h3
  dsimp only at k0 k1 k2 k3
  rw [cs1] at k0 k1 k2 k3
  obtain ⟨n, e0, _, w0⟩ := DataW.trod_int Tryz.underlying3 h0
  obtain ⟨l, e1, _, w1⟩ := DataW.trod_string Tryz.underlying9 h1
  obtain ⟨k, e2, _, w2⟩ := DataW.trod_int Tryz.underlying3 h2
  obtain ⟨u, e3, _, w3⟩ := DataW.trod_string Tryz.underlying9 k0
  obtain ⟨m, e4, _, w4⟩ := DataW.trod_string Tryz.underlying9 k1
  obtain ⟨v, e5, _, w5⟩ := DataW.trod_string Tryz.underlying9 k2
  obtain ⟨e, e6, _, w6⟩ := DataW.trod_string Tryz.underlying9 k3
  simp at e0 e1 e2 e3 e4 e5 e6
  subst e0 e1 e2 e3 e4 e5 e6
  exact ⟨n, l, k, u, m, v, e, rfl, w0, w1, w2, w3, w4, w5, w6⟩
end Header
end Go.Proofs.YtgfdomdbjiflmaaGreatDoor
