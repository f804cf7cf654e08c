/- Slices that the call itself appends to. -/
import Derived.Test.YtoblmddnefmpoaaBase
import Derived.Test.YtoblmddnefmpoaaStr
import Derived.Laws.AppendOwn
import Derived.Deep.OwnRows
namespace Go.Proofs.Ytoblmddnefmpoaa
open Go.RowKit

theorem some_bytes (R : ByteArray) (h : 0 < R.size) : (!R.toList.isEmpty) = true := by
  have h2 : R.toList = R.data.toList := by first | exact ByteArray.toList_eq R | exact Go.ByteArray.toList_eq R
  rw [h2]
  cases hl : R.data.toList with
  | nil =>
    have h9 : R.size = R.data.toList.length := rfl
    rw [hl, List.length_nil] at h9
    omega
  | cons x l => rfl

/-- what a slice type's elements are -/
structure ElemIs (T E : TypeId) (z : Value) (size bytes : Nat) : Prop where
  ht : Try.prog.underlying T = some (.slice E)
  hi : (Try.prog.info? E).map (fun i => (i.zero, i.size, i.bytes)) = some (some z, size, bytes)
  hz : z.cells.size = size
  hs : 0 < size

/-- append to a slice of the call's own: of the cells that stand in a block made just before -/
theorem app_own {T E : TypeId} {z : Value} {size bytes : Nat} (I : ElemIs T E z size bytes) {ops : Array Oper} {rest : List Oper} {o : Oper} {a : Act} {Q : Exit → Act → World → Prop} (hgd : o.guard = none) (s x : Operand)
    (ho : o.op = .call { callee := .builtin .append, args := #[s, x], argTypes := #[T, T] })
    (w0 wr : World) (v : Value) (n : Nat) (xs : List Value) (hs : a.eval s = v) (hown : wr.ownsRow w0.heap.size E size v n xs) (hS : Since w0 wr)
    (cells : Array Value) (c m : Nat) (hx : a.eval x = .slice (some ⟨wr.heap.size, 0, none⟩) m c) (hl : cells.toList.length = m * size) (h1 : ∀ u ∈ cells.toList, u.oneCell' = true)
    (h63 : n + m ≤ maxLen) (hbytes : (n + m) * bytes ≤ 140737488355328)
    (h : ∀ v' w', w'.ownsRow w0.heap.size E size v' (n + m) (xs ++ cells.toList) → Since w0 w' → wpList Try.prog ops Q rest (a.put o.dst v') w') :
    wpList Try.prog ops Q (o :: rest) a (wr.alloc (.cells cells E)) := by
  obtain ⟨ht, hi, hz, hs0⟩ := I
  obtain ⟨i, hi1, hi2⟩ := Option.map_eq_some_iff.1 hi
  simp only [Prod.mk.injEq] at hi2
  refine wpList_append_own _ hgd s x T ho w0.heap.size E i z size bytes ht hi1 hi2.1 hi2.2.1 hi2.2.2 hz hs0 v n xs hs (hown.alloc _) ⟨wr.heap.size, 0, none⟩ m c cells.toList hx hl ?_ h1 h63 hbytes ?_ ?_
  · intro j u hu
    have hj : j < cells.size := by
      rcases List.getElem?_eq_some_iff.1 hu with ⟨hj, _⟩
      simpa using hj
    have hadd : (⟨wr.heap.size, 0, none⟩ : Addr).add j = ⟨wr.heap.size, j, none⟩ := by unfold Addr.add; split <;> simp_all
    rw [hadd, (World.rowIs_alloc wr cells E (fun k => cells.getD k (.bool false)) (fun k hk => by simp [Array.getD, hk])).cell hj]
    rw [Array.getElem?_toList] at hu
    simp [Array.getD, hj] at hu ⊢
    exact hu
  · have h9 := Below.size hS
    simp
    omega
  · intro v' w' ho' hg _
    refine h v' w' ho' ?_
    refine Below.grown (Below.alloc hS (Below.size hS) _) hg ?_ ?_
    · have h9 := Below.size hS
      simp
      omega
    · intro k hk
      exact (hown.lt k hk).1

/-- append of one element of one cell -/
theorem app_one {T E : TypeId} {z : Value} {bytes : Nat} (I : ElemIs T E z 1 bytes) {ops : Array Oper} {rest : List Oper} {o : Oper} {a : Act} {Q : Exit → Act → World → Prop} (hgd : o.guard = none) (s x : Operand)
    (ho : o.op = .call { callee := .builtin .append, args := #[s, x], argTypes := #[T, T] })
    (w0 wr : World) (v : Value) (n : Nat) (xs : List Value) (hs : a.eval s = v) (hown : wr.ownsRow w0.heap.size E 1 v n xs) (hS : Since w0 wr)
    (y : Value) (hx : a.eval x = .slice (some ⟨wr.heap.size, 0, none⟩) 1 1) (h1 : y.oneCell' = true) (hn : n ≤ 1099511627776) (hby : bytes ≤ 64)
    (h : ∀ v' w', w'.ownsRow w0.heap.size E 1 v' (n + 1) (xs ++ [y]) → Since w0 w' → wpList Try.prog ops Q rest (a.put o.dst v') w') :
    wpList Try.prog ops Q (o :: rest) a (wr.alloc (.cells #[y] E)) :=
  app_own I hgd s x ho w0 wr v n xs hs hown hS #[y] 1 1 hx rfl (fun u hu => by simp at hu; subst hu; exact h1) (by unfold maxLen; omega)
    (Nat.le_trans (Nat.mul_le_mul (show n + 1 ≤ 1099511627777 by omega) hby) (by decide)) h
end Go.Proofs.Ytoblmddnefmpoaa
