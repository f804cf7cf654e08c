/- Joined texts. -/
-- PACK: YtgfdomdbjiflmaaDoorTempl
import Derived.Test.YtgfdomdbjiflmaaDoorDk39
import Derived.Test.YtgfdomdbjiflmaaDoorDk22
import Derived.Test.YtgfdomdbjiflmaaDoorDk27
import Derived.Test.YtgfdomdbjiflmaaDoorDk19
import Derived.Test.YtgfdomdbjiflmaaDoorDk14
import Derived.Deep.AppendLies
import Derived.Laws.OwnMore
import Derived.OwnWalk

/- Package templ: Encode. -/
namespace Go.Proofs.YtgfdomdbjiflmaaDoor
open Go.RowKit
namespace Templ
open Att
def partsT (p : A2) : List ByteArray := [bs (RefOct.low p.1 2), bs (RefOct.low (p.2.size : Int) 1), p.2]
def pts (l : List A2) : List ByteArray := l.flatMap partsT
def rawT (l : List A2) : List UInt8 := Oct.cat (pts l)
def encT (l : List A2) : ByteArray := if attOk l then bs (Dig.hexL (rawT l)) else ⟨#[]⟩
def encV (l : List A2) : Value := .tuple #[.string (encT l), .int .i64 (attE l)]
theorem pts_snoc (l : List A2) (k : Nat) (t : Int) (s : ByteArray) (h : l[k]? = some (t, s)) : pts (l.take (k + 1)) = pts (l.take k) ++ [bs (RefOct.low t 2), bs (RefOct.low (s.size : Int) 1), s] := by
  unfold pts
  rw [take_snoc l k _ h, List.flatMap_append]; rfl
theorem pts_len (l : List A2) : (pts l).length = 3 * l.length := by
  unfold pts
  induction l with
  | nil => rfl
  | cons a l ih => rw [List.flatMap_cons, List.length_append, ih, List.length_cons]; show 3 + _ = _; omega
theorem cat_app (a b : List ByteArray) : Oct.cat (a ++ b) = Oct.cat a ++ Oct.cat b := by unfold Oct.cat; simp
theorem rawT_cons (p : A2) (l : List A2) : rawT (p :: l) = RefOct.low p.1 2 ++ (RefOct.low (p.2.size : Int) 1 ++ (p.2.data.toList ++ rawT l)) := by
  unfold rawT pts
  rw [List.flatMap_cons, cat_app]
  unfold partsT Oct.cat
  simp [list_bs]
theorem rawT_len (l : List A2) (h : ∀ p ∈ l, p.2.size ≤ 255) : (rawT l).length ≤ 258 * l.length := by
  induction l with
  | nil => exact Nat.le_refl _
  | cons p l ih =>
    have h1 := ih (fun q hq => h q (List.mem_cons_of_mem _ hq))
    have h2 := h p List.mem_cons_self
    rw [rawT_cons]
    simp only [List.length_append, RefOct.low_len, List.length_cons]
    have : p.2.data.toList.length = p.2.size := rfl
    omega
/-- a slice of strings of the call's own -/
def OwnT (w W : World) (v : Value) (ss : List ByteArray) : Prop := W.ownsRow w.heap.size 9 1 v ss.length (ss.map Value.string)
/-- what stands while a round's calls are made -/
structure PE (w : World) (v : Value) (ss : List ByteArray) (g : Nat) (t : Int) (s : ByteArray) (W : World) : Prop where
  own : OwnT w W v ss
  since : Since w W
  c0 : W.cell? ⟨g, 0, none⟩ = some (.int .i64 t)
  c1 : W.cell? ⟨g, 1, none⟩ = some (.string s)
  lg : g < W.heap.size
theorem pe_step {w : World} {v : Value} {ss : List ByteArray} {g : Nat} {t : Int} {s : ByteArray} {W W' : World} (hb : Below W.heap.size W W') (h : Hid (PE w v ss g t s W)) : Hid (PE w v ss g t s W') :=
  Lib.hid ⟨row_since h.out.own hb, h.out.since.step hb, (hb.cell (p := ⟨g, 0, none⟩) h.out.lg).trans h.out.c0, (hb.cell (p := ⟨g, 1, none⟩) h.out.lg).trans h.out.c1, Nat.lt_of_lt_of_le h.out.lg hb.size⟩
theorem pe_drew {w : World} {v : Value} {ss : List ByteArray} {g : Nat} {t : Int} {s : ByteArray} {W : World} (h : Hid (PE w v ss g t s W)) : Hid (PE w v ss g t s W.drew) := pe_step (Below.drew (Below.refl _ _)) h
theorem pe_alloc {w : World} {v : Value} {ss : List ByteArray} {g : Nat} {t : Int} {s : ByteArray} {W : World} (o : Obj) (h : Hid (PE w v ss g t s W)) : Hid (PE w v ss g t s (W.alloc o)) := pe_step (Below.alloc (Below.refl _ _) (Nat.le_refl _) o) h
theorem pe_new {w wr : World} {v : Value} {ss : List ByteArray} (t : Int) (s : ByteArray) (ho : OwnT w wr v ss) (hs : Since w wr) (T : TypeId) : PE w v ss wr.heap.size t s (wr.alloc (.cells #[.int .i64 t, .string s] T)) :=
  ⟨World.ownsRow.alloc ho _, hs.alloc _, World.cell?_alloc_new _ _ _ _, World.cell?_alloc_new _ _ _ _, by simp⟩
set_option maxRecDepth 100000 in
theorem step_own {T E : TypeId} {z : Value} {size bytes : Nat} (I : ElemIs T E z size bytes) {ops : Array Oper} {o : Oper} {a : Act} {K : Act → World → Prop} {Q : Exit → Act → World → Prop} {E' : Prop} (hgd : o.guard = none) (s x : Operand)
    (ho : o.op = .call { callee := .builtin .append, args := #[s, x], argTypes := #[T, T] })
    (w0 w : World) (v : Value) (n : Nat) (xs : List Value) (hs : a.eval s = v) (hown : w.ownsRow w0.heap.size E size v n xs) (hS : Since w0 w)
    (g0 m c : Nat) (ys : List Value) (hx : a.eval x = .slice (some ⟨g0, 0, none⟩) m c) (hl : ys.length = m * size) (hc : ∀ j u, ys[j]? = some u → w.cell? ⟨g0, j, none⟩ = some u) (h1 : ∀ u ∈ ys, u.oneCell' = true) (hm0 : 0 < m) (hm : m ≤ 1000) (hn : n ≤ 1099511627776) (hby : bytes ≤ 64)
    (h : ∀ v' w', w'.ownsRow w0.heap.size E size v' (n + m) (xs ++ ys) → Since w0 w' → K (a.put o.dst v') w') :
    if Region.wanted o (yielded ops a.tmps) = true then Oper.wp Tryd.prog o a w K Q else E' := by
  obtain ⟨ht, hi, hz, hs0⟩ := I
  obtain ⟨i, hi0, hz0, hz1, hz2⟩ := info_parts hi
  refine step_append_lies w hgd s x T ho w0.heap.size E i z size bytes ht hi0 hz0 hz1 hz2 hz hs0 v n xs hs hown ⟨g0, 0, none⟩ m c ys hx hl ?_ h1 hm0 (by unfold maxLen; omega) ?_ (Below.size hS) w.heap.size rfl ?_
  · intro j u hu
    have hadd : (⟨g0, 0, none⟩ : Addr).add j = ⟨g0, j, none⟩ := by unfold Addr.add; split <;> simp_all
    rw [hadd]
    exact hc j u hu
  · exact Nat.le_trans (Nat.mul_le_mul (show n + m ≤ 1099511628776 by omega) hby) (by decide)
  · intro g cap w' hown' hg hat hlt
    refine h _ w' hown' ?_
    exact Below.grown hS hg (Below.size hS) (fun k hk => (hown.lt k hk).1)
end Templ
end Go.Proofs.YtgfdomdbjiflmaaDoor
