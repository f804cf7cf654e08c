/- Joined texts. -/
-- PACK: YtgfdomdbjiflmaaDoorCel
import Derived.Test.YtgfdomdbjiflmaaDoorDk19
import Derived.Laws.IdiomCopy
import Derived.Laws.IdiomStrings

/- The bytes that a conversion of a string made: read, written, turned into a string again. -/
namespace Go.Proofs.YtgfdomdbjiflmaaDoor
open Go.RowKit

/-- the first n cells of block b are f, and may be written -/
structure Cel (w : World) (b n : Nat) (f : Nat → Value) : Prop where
  lt : b < w.heap.size
  cell : ∀ i, i < n → w.cell? ⟨b, i, none⟩ = some (f i)
  free : ∀ i, i < n → w.frozen? ⟨b, i, none⟩ = false
theorem Cel.below {w w' : World} {b n : Nat} {f : Nat → Value} (h : Cel w b n f) (hb : Below w.heap.size w w') : Cel w' b n f :=
  ⟨Nat.lt_of_lt_of_le h.lt hb.size, fun i hi => (hb.cell (p := ⟨b, i, none⟩) h.lt).trans (h.cell i hi), fun i hi => (hb.frozen (p := ⟨b, i, none⟩) h.lt).trans (h.free i hi)⟩
theorem Cel.congr {w : World} {b n : Nat} {f g : Nat → Value} (h : Cel w b n f) (hg : ∀ i, i < n → f i = g i) : Cel w b n g :=
  ⟨h.lt, fun i hi => by rw [← hg i hi]; exact h.cell i hi, h.free⟩
theorem below_setCells {B b : Nat} {w0 : World} (hB : B ≤ b) : ∀ (vs : List Value) (o : Nat) (w : World), Below B w0 w → Below B w0 (w.setCells b o vs)
  | [], _, _, h => h
  | v :: vs, o, w, h => by
    rw [World.setCells]
    exact below_setCells hB vs (o + 1) _ (Below.setCell h hB _)
theorem size_setCells (b : Nat) : ∀ (vs : List Value) (o : Nat) (w : World), (w.setCells b o vs).heap.size = w.heap.size
  | [], _, _ => rfl
  | v :: vs, o, w => by
    rw [World.setCells, size_setCells b vs (o + 1)]
    simp
set_option maxRecDepth 100000 in
theorem run_copy_cel (w : World) (s : ByteArray) (b off N dLen dCap ty : Nat) (f : Nat → Value) (h : Cel w b N f) (hfit : off + s.size ≤ N) (hd : s.size ≤ dLen) :
    ∃ w', (Builtin.copy_ #[97, 9] ty #[.slice (some ⟨b, off, none⟩) dLen dCap, .string s]).run Tryd.prog w = .ok (.int .i64 (s.size : Int)) w' ∧ Cel w' b N (putAt f off s.data.toList) ∧ ∀ (B : Nat) (w0 : World), Below B w0 w → B ≤ b → Below B w0 w' := by
  obtain ⟨i, hi, hz⟩ := Option.map_eq_some_iff.1 info5
  simp only [Prod.mk.injEq] at hz
  have hi1 := hz.2.1
  have hmin : Nat.min s.size dLen = s.size := Nat.min_eq_left hd
  have hl : s.data.toList.length = s.size := rfl
  have htk : List.take s.size (s.data.toList.map fun b => Value.int .u8 (b.toNat : Int)) = s.data.toList.map fun b => Value.int .u8 (b.toNat : Int) := List.take_of_length_le (by simp)
  have hu := run_underlying (P := Tryd.prog) Tryd.underlying97 w
  obtain ⟨vs, hvs⟩ : ∃ vs, vs = s.data.toList.map fun b => Value.int .u8 (b.toNat : Int) := ⟨_, rfl⟩
  have hvl : vs.length = s.size := by rw [hvs, List.length_map]; exact hl
  have hsome : ∀ j, j < vs.length → (w.cell? ⟨b, off + j, none⟩).isSome = true := fun j hj => by rw [h.cell _ (by omega)]; rfl
  have hst := run_storeCells_cells (P := Tryd.prog) b off vs 0 w (fun j hj => hsome j hj) (fun j hj => h.free _ (by omega)) (by
    intro v hv
    rw [hvs] at hv
    obtain ⟨x, _, rfl⟩ := List.mem_map.1 hv
    rfl)
  refine ⟨w.setCells b off vs, ?_, ⟨by rw [size_setCells]; exact h.lt, fun j hj => ?_, fun j hj => by rw [World.frozen?_setCells]; exact h.free j hj⟩, fun B w0 hb hB => below_setCells hB vs off w hb⟩
  · rw [← hvs] at htk
    simp [Builtin.copy_, hu, Builtin.lenOf, Builtin.firstCells, sizeOf, typeInfo, hi, hmin, goInt, ← hvs, htk]
    rw [Nat.add_zero] at hst
    rw [hst]
    rfl
  · unfold putAt
    by_cases hj2 : off ≤ j ∧ j < off + s.data.toList.length
    · rw [if_pos hj2]
      have h9 := World.cell?_setCells_in b vs off w hsome (j - off) (by omega)
      rw [show off + (j - off) = j from by omega] at h9
      rw [h9]
      simp [hvs, List.getD, List.getElem?_eq_getElem (show j - off < s.data.toList.length by omega)]
    · rw [if_neg hj2, World.cell?_setCells_out b vs off w ⟨b, j, none⟩ (fun _ _ => by simp only; omega)]
      exact h.cell j hj
set_option maxRecDepth 100000 in
/-- '[]byte(s)' -/
theorem run_bytes_cel (w : World) (s : ByteArray) : ∃ c w', (convert 9 97 (.string s)).run Tryd.prog w = .ok (.slice (some ⟨w.heap.size, 0, none⟩) s.size c) w' ∧ s.size ≤ c ∧ Cel w' w.heap.size s.size (Oct.rowF s.data.toList) ∧ Below w.heap.size w w' := by
  have hrun := run_bytes_of_string (P := Tryd.prog) w 9 97 5 s Tryd.underlying9 Tryd.underlying97 Tryd.underlying5
  obtain ⟨R, hR⟩ : ∃ R, R = bytesRow s (grownCap w s.size 0 5) := ⟨_, rfl⟩
  have hg : s.size ≤ grownCap w s.size 0 5 := grownCap_ge _ _ _ _
  have hRs : s.size ≤ R.size := by rw [hR]; unfold bytesRow; simp
  have hRc : ∀ i, i < s.size → R[i]? = some (Oct.rowF s.data.toList i) := fun i hi => by
    have hl : s.data.toList.length = s.size := rfl
    rw [hR]
    unfold bytesRow Oct.rowF
    rw [if_pos (by omega)]
    simp [Array.getElem?_append, hi, List.getD]
  rw [← hR] at hrun
  have hnew : (w.drew.alloc (.cells R 5 (R.size, R.size + 1))).heap[w.heap.size]? = some (.cells R 5 (R.size, R.size + 1)) := Go.heap_alloc_new w.drew _
  refine ⟨_, _, hrun, hg, ⟨?_, fun i hi => ?_, fun i hi => ?_⟩, Below.alloc (Below.drew (Below.refl _ _)) (Nat.le_refl _) _⟩
  · exact (Array.getElem?_eq_some_iff.1 hnew).1
  · unfold World.cell?
    rw [hnew]
    exact hRc i hi
  · unfold World.frozen?
    rw [hnew]
    simp
    omega
set_option maxRecDepth 100000 in
/-- such bytes as a string -/
theorem conv_cel (w : World) (b N p n c : Nat) (L : List UInt8) (h : Cel w b N (Oct.rowF L)) (hN : L.length = N) (hp : p + n ≤ N) (P : ByteArray) (hP : P = bs ((L.drop p).take n)) :
    (convert 97 9 (.slice (some ⟨b, p, none⟩) n c)).run Tryd.prog w = .ok (.string P) w := by
  have hl : ((L.drop p).take n).length = n := by rw [List.length_take, List.length_drop]; omega
  have g := run_convert_bytes_arg (P := Tryd.prog) w 97 5 Tryd.underlying97 Tryd.underlying5 b p n c (((L.drop p).take n).map fun c => (c.toNat : Int)) (by rw [List.length_map, hl]) (fun i hi => by
    rw [h.cell (p + i) (by omega), Oct.rowF, if_pos (by omega)]
    simp [List.getD, List.getElem?_eq_getElem (show p + i < L.length by omega), List.getElem?_map, List.getElem?_take_of_lt hi, List.getElem?_drop]) 9 Tryd.underlying9
  rw [g, nums_bytes, hP]
end Go.Proofs.YtgfdomdbjiflmaaDoor
