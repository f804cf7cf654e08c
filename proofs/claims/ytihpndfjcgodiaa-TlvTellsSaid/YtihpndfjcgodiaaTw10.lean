/- Joined texts. -/
-- PACK: YtihpndfjcgodiaaBytes
import Derived.Test.YtihpndfjcgodiaaTw9
import Derived.Laws.BytesArg
import Derived.Laws.BytesString

/- Slices of bytes of the call's own: literals, what was appended to, and the string of what they hold. -/
namespace Go.Proofs.Ytihpndfjcgodiaa
open Go.RowKit

theorem heap_new (w : World) (o : Obj) : (w.alloc o).heap[w.heap.size]? = some o := by
  show (w.heap.push o)[w.heap.size]? = some o
  simp
set_option maxRecDepth 100000 in
theorem elem8 : ElemIs 84 5 (.int .u8 0) 1 1 := ⟨Try.underlying84, by kernel_rfl, rfl, by decide⟩

set_option maxRecDepth 100000 in
theorem conv_at (w : World) (g n cap : Nat) (cur : Array Value) (xs : List Int) (hg : w.heap[g]? = some (.cells cur 5)) (hn : xs.length = n) (ht : cur.toList.take n = xs.map (Value.int .u8)) :
    ∀ dst, Try.prog.underlying dst = some .string → (convert 84 dst (.slice (some ⟨g, 0, none⟩) n cap)).run Try.prog w = .ok (.string (strOfNums xs)) w :=
  run_convert_bytes_arg (P := Try.prog) w 84 5 Try.underlying84 Try.underlying5 g 0 n cap xs hn fun i hi => by
    have h1 : (cur.toList.take n)[i]? = some (.int .u8 (xs.getD i 0)) := by
      rw [ht, List.getElem?_map, List.getElem?_eq_getElem (by omega)]
      simp [List.getD, List.getElem?_eq_getElem (show i < xs.length by omega)]
    rw [List.getElem?_take_of_lt hi, Array.getElem?_toList] at h1
    simp [World.cell?, hg, h1]

set_option maxRecDepth 100000 in
/-- a literal row of bytes as a string -/
theorem conv_lit (w : World) (g : Nat) (hg : g = w.heap.size) (xs : List Int) (n : Nat) (hn : xs.length = n) (cells : Array Value) (hc : cells = (xs.map (Value.int .u8)).toArray) :
    ∀ dst, Try.prog.underlying dst = some .string → (convert 84 dst (.slice (some ⟨g, 0, none⟩) n n)).run Try.prog (w.alloc (.cells cells 5)) = .ok (.string (strOfNums xs)) (w.alloc (.cells cells 5)) := by
  subst hg hc hn
  refine conv_at _ _ _ _ _ xs (heap_new w _) rfl ?_
  exact List.take_of_length_le (by simp)

set_option maxRecDepth 100000 in
/-- a row that was appended to as a string -/
theorem conv_own (w : World) (b : Nat) (v : Value) (n : Nat) (xs : List Int) (h : w.ownsRow b 5 1 v n (xs.map (Value.int .u8))) (h0 : 0 < n) :
    ∀ dst, Try.prog.underlying dst = some .string → (convert 84 dst v).run Try.prog w = .ok (.string (strOfNums xs)) w := by
  obtain ⟨h1, h2⟩ := h
  rcases h2 with ⟨rfl, hn⟩ | ⟨g, cap, cur, rfl, hb, hg, hn, hm, hsz, htk⟩
  · omega
  · rw [List.length_map] at h1
    rw [Nat.mul_one] at htk h1
    exact conv_at _ _ _ _ _ xs hg h1 htk

theorem own_lit (w : World) (b g : Nat) (hg : g = w.heap.size) (hb : b ≤ w.heap.size) (xs : List Value) (n : Nat) (hn : xs.length = n) (hm : n ≤ maxLen) (cells : Array Value) (hc : cells = xs.toArray) (t : TypeId) :
    (w.alloc (.cells cells t)).ownsRow b t 1 (.slice (some ⟨g, 0, none⟩) n n) n xs := by
  subst hg hc hn
  exact ⟨by simp, Or.inr ⟨_, _, _, rfl, hb, heap_new w _, Nat.le_refl _, hm, by simp, by simp⟩⟩
end Go.Proofs.Ytihpndfjcgodiaa
