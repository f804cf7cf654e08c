/- Joined texts. -/
-- PACK: YtgfdomdbjiflmaaDoorHeaderAwake
import Derived.Test.YtgfdomdbjiflmaaDoorDk53
import Derived.Test.YtgfdomdbjiflmaaDoorDk7
import Derived.Laws.StructEq
import Derived.Lib.SmallJoins

/- Layer 31: what the laws call awake. -/
namespace Go.Proofs.YtgfdomdbjiflmaaDoor
open Go.RowKit
namespace Header
def awS : ByteArray := ⟨#[68, 48, 49, 49, 50, 75, 48, 65, 66, 48, 48, 69, 48, 48, 48, 48]⟩
theorem aw_dec : decE awS = 0 ∧ decV awS = C7 112 0 ⟨#[65]⟩ ⟨#[75, 48]⟩ ⟨#[66]⟩ ⟨#[48, 48]⟩ ⟨#[69]⟩ := by
  have hf : Form awS := by decide +kernel
  have hk : okS awS = true := by decide +kernel
  unfold decE decV
  rw [if_pos hf, if_pos hk, if_pos ⟨hf, hk⟩]
  have a1 : Dig.numD (awS.extract 1 5).data.toList = 112 := by decide +kernel
  have a2 : Dig.numD (awS.extract 12 14).data.toList = 0 := by decide +kernel
  have a3 : awS.extract 7 8 = ⟨#[65]⟩ := by decide +kernel
  have a4 : awS.extract 5 7 = ⟨#[75, 48]⟩ := by decide +kernel
  have a5 : awS.extract 8 9 = ⟨#[66]⟩ := by decide +kernel
  have a6 : awS.extract 9 11 = ⟨#[48, 48]⟩ := by decide +kernel
  have a7 : awS.extract 11 12 = ⟨#[69]⟩ := by decide +kernel
  rw [a1, a2, a3, a4, a5, a6, a7]
  exact ⟨rfl, rfl⟩
theorem aw_enc : encE 112 0 ⟨#[65]⟩ ⟨#[75, 48]⟩ ⟨#[66]⟩ ⟨#[48, 48]⟩ ⟨#[69]⟩ = 0 ∧ encX 112 0 ⟨#[65]⟩ ⟨#[75, 48]⟩ ⟨#[66]⟩ ⟨#[48, 48]⟩ ⟨#[69]⟩ = awS := by
  constructor
  · decide +kernel
  · apply ba_ext
    decide +kernel
set_option maxRecDepth 100000 in
theorem tabs_of {W : World} (h : laidMetH Tryd.prog [("claviger/kind.lines", Rows.laid_claviger_kind_lines), ("claviger/table.lines", Rows.laid_claviger_table_lines)] W) : KH W := by
  rw [MakeChecks.laidMetH_plain _ _ _ (by kernel_rfl)] at h
  obtain ⟨ps, ⟨g0, t0, cs0, f0, p0, q0, hg0, ht0, hv0, hd0, ⟨g1, t1, cs1, f1, p1, q1, hg1, ht1, hv1, hd1, _, _⟩, _⟩, _, _⟩ := h
  exact ⟨Table.tabs_at hg1 ht1 hv1 hd1, Kind.tabs_at hg0 ht0 hv0 hd0⟩
end Header
end Go.Proofs.YtgfdomdbjiflmaaDoor
