/- Joined texts. -/
-- PACK: YtpakifiphdlkoaaDoorMem
import Derived.Test.YtpakifiphdlkoaaDoorCv3
import Derived.Deep.OwnRows
import Derived.Deep.Draws
import Derived.Laws.CopyRow
import Derived.Laws.CopyOwn
import Derived.Lib.SlBuf
import Derived.Test.YtpakifiphdlkoaaDoorCv1

/- Memory that a call makes itself: a string copied into a row. -/
namespace Go.Proofs.YtpakifiphdlkoaaDoor
open Go.RowKit

set_option maxRecDepth 100000 in
theorem info5 : (Tryd.prog.info? 5).map (fun i => (i.zero, i.size, i.bytes)) = some (some (Value.int IntKind.u8 0), 1, 1) := by kernel_rfl

/-- what a row of bytes holds where the bytes l were put at place off -/
def putAt (f : Nat → Value) (off : Nat) (l : List UInt8) : Nat → Value := fun j => if off ≤ j ∧ j < off + l.length then .int .u8 ((l.getD (j - off) 0).toNat : Int) else f j

set_option maxRecDepth 100000 in
theorem run_copy_str (w : World) (s : ByteArray) (b t off N dLen dCap ty : Nat) (f : Nat → Value) (A : Option Addr) (h : w.rowIs b t N f) (hA : 0 < s.size → A = some ⟨b, off, none⟩) (hfit : off + s.size ≤ N) (hd : s.size ≤ dLen) :
    ∃ w', (Builtin.copy_ #[33, 9] ty #[.slice A dLen dCap, .string s]).run Tryd.prog w = .ok (.int .i64 (s.size : Int)) w' ∧ w'.rowIs b t N (putAt f off s.data.toList) ∧ ∀ (B : Nat) (w0 : World), Below B w0 w → B ≤ b → Below B w0 w' := by
  obtain ⟨c, hg, hn, hc⟩ := h
  have hi : ∃ i, Tryd.prog.info? 5 = some i ∧ i.size = 1 := by
    obtain ⟨i, hi, hz⟩ := Option.map_eq_some_iff.1 info5
    simp only [Prod.mk.injEq] at hz
    exact ⟨i, hi, hz.2.1⟩
  obtain ⟨i, hi, hi1⟩ := hi
  have hmin : Nat.min s.size dLen = s.size := Nat.min_eq_left hd
  have htk : List.take s.size (s.data.toList.map fun b => Value.int .u8 (b.toNat : Int)) = s.data.toList.map fun b => Value.int .u8 (b.toNat : Int) := List.take_of_length_le (by simp)
  have hu := run_underlying (P := Tryd.prog) Tryd.underlying33 w
  by_cases h0 : s.size = 0
  · have hl : s.data.toList = [] := List.eq_nil_of_length_eq_zero h0
    refine ⟨w, ?_, ⟨c, hg, hn, fun j hj => by rw [hc j hj]; unfold putAt; rw [hl, if_neg (fun h => by have := h.2; simp at this; omega)]⟩, fun B w0 hb _ => hb⟩
    cases A with
    | none => simp [Builtin.copy_, hu, Builtin.lenOf, Builtin.firstCells, sizeOf, typeInfo, hi, hmin, goInt]
    | some ad => simp [Builtin.copy_, hu, Builtin.lenOf, Builtin.firstCells, sizeOf, typeInfo, hi, hmin, goInt, hl, storeCells]
  · obtain rfl := hA (by omega)
    have hst := run_storeCells_at Tryd.prog b off t (s.data.toList.map fun b => Value.int .u8 (b.toNat : Int)) 0 c w hg (by simp; show off + s.size ≤ c.size; omega) (by intro v hv; obtain ⟨x, _, rfl⟩ := List.mem_map.1 hv; rfl)
    refine ⟨_, by simp [Builtin.copy_, hu, Builtin.lenOf, Builtin.firstCells, sizeOf, typeInfo, hi, hmin, goInt, htk, hst]; rfl, ⟨_, setRow_heap w b c _ t _ hg, ?_, fun j hj => ?_⟩, fun B w0 hb hB => below_setRow hb hB _⟩
    · simp; omega
    · have hlen : s.data.toList.length = s.size := rfl
      unfold putAt
      simp only [List.getElem?_toArray]
      by_cases h1 : j < off
      · rw [if_neg (by omega), List.getElem?_append_left (by simp; omega), List.getElem?_take_of_lt h1, Array.getElem?_toList]
        exact hc j hj
      · by_cases h2 : j < off + s.size
        · rw [if_pos (by omega), List.getElem?_append_right (by simp; omega), List.getElem?_append_left (by simp; omega)]
          have he : j - (List.take off c.toList).length = j - off := by simp; omega
          rw [he, List.getElem?_map, List.getElem?_eq_getElem (by omega)]
          simp [List.getD, List.getElem?_eq_getElem (show j - off < s.data.toList.length by omega)]
        · rw [if_neg (by omega), List.getElem?_append_right (by simp; omega), List.getElem?_append_right (by simp; omega), List.getElem?_drop, Array.getElem?_toList]
          have he : off + s.size + (j - (List.take off c.toList).length - (List.map (fun b => Value.int .u8 (b.toNat : Int)) s.data.toList).length) = j := by simp; omega
          rw [he]
          exact hc j hj
end Go.Proofs.YtpakifiphdlkoaaDoor
