/- Joined texts. -/
-- PACK: YtgfdomdbjiflmaaDoorRnd
import Derived.Test.YtgfdomdbjiflmaaDoorDj8
import Derived.Test.YtgfdomdbjiflmaaDoorDj9
import Derived.Laws.Rows
import Derived.Laws.Tables
import Derived.Deep.Draws
import Derived.Laws.CopyOwn
import Derived.RegionTactic
import Derived.ChangeAlike
import Derived.IntWalk
import Derived.Deep.RegionWith

/- Package round: a state read from a string, and its string. -/
namespace Go.Proofs.YtgfdomdbjiflmaaDoor
open Go.RowKit
namespace Rnd

/-- byte i of a string -/
def ent (l : List UInt8) (i : Nat) : Nat := (l.getD i 0).toNat
theorem ent_s (s : ByteArray) (k : Nat) (h : k < s.size) : ent s.data.toList k = s[k].toNat := by
  unfold ent
  congr 1
  simp [List.getD, List.getElem?_eq_getElem (show k < s.data.toList.length from h)]; rfl
theorem ent_lt (l : List UInt8) (i : Nat) : ent l i < 256 := UInt8.toNat_lt _
/-- cell j of a state: row j / 4, column j % 4 -/
def stV (l : List UInt8) (j : Nat) : Value := .int .u8 ((ent l (4 * (j % 4) + j / 4) : Nat) : Int)
def stC (l : List UInt8) : Array Value := ((List.range 16).map (stV l)).toArray
theorem stC_size (l : List UInt8) : (stC l).size = 16 := by simp [stC]
theorem stC_at (l : List UInt8) (j : Nat) (h : j < 16) : (stC l)[j]? = some (stV l j) := by simp [stC, h]
theorem stC_one (l : List UInt8) : (stC l).all (·.oneCell') = true := by
  rw [Array.all_eq_true]
  intro i hi
  simp [stC]
  rfl
theorem row_arr {w : World} {b t : Nat} {f : Nat → Value} {l : List UInt8} (h : w.rowIs b t 16 f) (hf : ∀ j, j < 16 → f j = stV l j) : w.heap[b]? = some (.cells (stC l) t (0, 0)) := by
  obtain ⟨c, hg, hn, hc⟩ := h
  rw [hg]
  congr 2
  apply Array.ext_getElem?
  intro i
  by_cases hi : i < 16
  · rw [hc i hi, hf i hi, stC_at l i hi]
  · rw [Array.getElem?_eq_none (by omega), Array.getElem?_eq_none (by rw [stC_size]; omega)]
theorem arr_row {w : World} {b t : Nat} {l : List UInt8} (h : w.heap[b]? = some (.cells (stC l) t (0, 0))) : w.rowIs b t 16 (stV l) := ⟨stC l, h, stC_size l, fun j hj => stC_at l j hj⟩
theorem zrow (w : World) (t : TypeId) (c : Array Value) (hc : c.size = 16) (h : ∀ i, i < 16 → c[i]? = some (.int .u8 0)) : (w.alloc (.cells c t)).rowIs w.heap.size t 16 (fun _ => .int .u8 0) := by
  have := World.rowIs_alloc w c t (fun _ => .int .u8 0) (fun i hi => h i (by omega))
  rwa [hc] at this

theorem z16 (i : Nat) (h : i < 16) : (#[.int .u8 0, .int .u8 0, .int .u8 0, .int .u8 0, .int .u8 0, .int .u8 0, .int .u8 0, .int .u8 0, .int .u8 0, .int .u8 0, .int .u8 0, .int .u8 0, .int .u8 0, .int .u8 0, .int .u8 0, .int .u8 0] : Array Value)[i]? = some (.int .u8 0) := by
  match i, h with
  | 0, _ | 1, _ | 2, _ | 3, _ | 4, _ | 5, _ | 6, _ | 7, _ | 8, _ | 9, _ | 10, _ | 11, _ | 12, _ | 13, _ | 14, _ | 15, _ => rfl
  | n + 16, h => omega
theorem World.size_alloc' (w : World) (o : Obj) : (w.alloc o).heap.size = w.heap.size + 1 := by simp
set_option maxRecDepth 100000 in
theorem slice16 (b : Nat) (w : World) : (Instr.sliceAt 109 (.pointer (some ⟨b, 0, none⟩)) none none none).run Tryd.prog w = .ok (.slice (some ⟨b, 0, none⟩) 16 16) w := by kernel_rfl
theorem stV_at (l : List UInt8) (r c k : Nat) (_hr : r < 4) (hc : c < 4) (hk : k = 4 * c + r) : stV l (r * 4 + c) = .int .u8 ((ent l k : Nat) : Int) := by
  unfold stV; rw [show 4 * ((r * 4 + c) % 4) + (r * 4 + c) / 4 = k from by omega]
theorem text_str (l : List UInt8) (hl : l.length = 16) : strOfNums ((List.range 16).map fun j => ((ent l j : Nat) : Int)) = bs l := by
  apply ba_ext
  rw [nums_list, list_bs, List.map_map]
  apply List.ext_getElem?
  intro i
  by_cases hi : i < 16
  · simp [hi, ent, List.getD, List.getElem?_eq_getElem (show i < l.length by omega)]
  · rw [List.getElem?_eq_none (by simp; omega), List.getElem?_eq_none (by omega)]
/-- a list of 16 bytes -/
def mk16 (g : Nat → Nat) : List UInt8 := (List.range 16).map fun i => UInt8.ofNat (g i)
theorem mk16_len (g : Nat → Nat) : (mk16 g).length = 16 := by simp [mk16]
theorem mk16_ent (g : Nat → Nat) (i : Nat) (hi : i < 16) (hg : g i < 256) : ent (mk16 g) i = g i := by
  simp [mk16, ent, List.getD, hi]
  omega
theorem ret_int {k : IntKind} {a b : Int} (h : a = b) : Ending.returned (.int k a) = .returned (.int k b) := by rw [h]
def pickL (sel : Nat → Nat → Nat) (l : List UInt8) : List UInt8 := mk16 fun i => ent l (4 * sel (i % 4) (i / 4) + i % 4)
theorem pick_at (sel : Nat → Nat → Nat) (l : List UInt8) (r c : Nat) (hr : r < 4) (hc : c < 4) : stV (pickL sel l) (r * 4 + c) = .int .u8 ((ent l (4 * sel r c + r) : Nat) : Int) := by
  rw [stV_at _ r c (4 * c + r) hr hc rfl, pickL, mk16_ent (fun i => ent l (4 * sel (i % 4) (i / 4) + i % 4)) (4 * c + r) (by omega) (ent_lt _ _), show (4 * c + r) % 4 = r from by omega, show (4 * c + r) / 4 = c from by omega]
end Rnd
end Go.Proofs.YtgfdomdbjiflmaaDoor
