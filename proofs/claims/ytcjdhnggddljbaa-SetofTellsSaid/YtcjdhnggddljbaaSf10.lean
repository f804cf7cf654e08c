/- Joined texts. -/
-- PACK: YtcjdhnggddljbaaTwoRows
import Derived.Test.YtcjdhnggddljbaaSf9
import Derived.Test.YtcjdhnggddljbaaSf4
import Derived.Maps.AppendAt

/- Two slices that a call appends to by turns; rows of bytes of one's own that are written and turned into strings. -/
namespace Go.Proofs.Ytcjdhnggddljbaa
open Go.RowKit
/-- two values own no block both -/
def Apart (a b : Value) : Prop := ∀ g, a.ownBlock = some g → b.ownBlock ≠ some g
theorem Apart.symm {a b : Value} (h : Apart a b) : Apart b a := fun g h1 h2 => h g h2 h1
set_option maxRecDepth 100000 in
/-- append of one element of one cell; another slice of the call's own stays as it was, and apart -/
theorem app_one_d {T E : TypeId} {z : Value} {bytes : Nat} (I : ElemIs T E z 1 bytes) {ops : Array Oper} {rest : List Oper} {o : Oper} {a : Act} {Q : Exit → Act → World → Prop} (hgd : o.guard = none) (s x : Operand)
    (ho : o.op = .call { callee := .builtin .append, args := #[s, x], argTypes := #[T, T] })
    (w0 wr : World) (v : Value) (n : Nat) (xs : List Value) (hs : a.eval s = v) (hown : wr.ownsRow w0.heap.size E 1 v n xs) (hS : Since w0 wr)
    (y : Value) (hx : a.eval x = .slice (some ⟨wr.heap.size, 0, none⟩) 1 1) (h1 : y.oneCell' = true) (hn : n ≤ 1099511627776) (hby : bytes ≤ 64)
    (h : ∀ v' w', w'.ownsRow w0.heap.size E 1 v' (n + 1) (xs ++ [y]) → Since w0 w' → (∀ (u : Value) (m : Nat) (ys : List Value), wr.ownsRow w0.heap.size E 1 u m ys → Apart v u → w'.ownsRow w0.heap.size E 1 u m ys ∧ Apart v' u) → wpList Try.prog ops Q rest (a.put o.dst v') w') :
    wpList Try.prog ops Q (o :: rest) a (wr.alloc (.cells #[y] E)) := by
  obtain ⟨ht, hi, hz, hs0⟩ := I
  obtain ⟨i, hi1, hi2⟩ := Option.map_eq_some_iff.1 hi
  simp only [Prod.mk.injEq] at hi2
  have hsz : (wr.alloc (.cells #[y] E)).heap.size = wr.heap.size + 1 := by simp
  have h9 := Below.size hS
  refine wpList_append_own_at (w := wr.alloc (.cells #[y] E)) hgd s x T ho w0.heap.size E i z 1 bytes ht hi1 hi2.1 hi2.2.1 hi2.2.2 hz hs0 v n xs hs (hown.alloc _) ⟨wr.heap.size, 0, none⟩ 1 1 [y] hx rfl (cell_one_new _ _ _) (fun u hu => by simp at hu; subst hu; exact h1)
    (by unfold maxLen; omega) (Nat.le_trans (Nat.mul_le_mul (show n + 1 ≤ 1099511627777 by omega) hby) (by decide)) (by omega) ?_
  intro v' w' ho' hg _ hw
  refine h v' w' ho' (Below.grown (Below.alloc hS (Below.size hS) _) hg (by omega) (fun k hk => (hown.lt k hk).1)) fun u m ys hu hap => ⟨?_, ?_⟩
  · refine (hu.alloc _).kept hg ?_
    cases hub : u.ownBlock with
    | none => exact Or.inl rfl
    | some g => exact Or.inr fun e => hap g e.symm hub
  · intro g h2 h3
    rcases hw with hw | hw
    · exact hap g (hw ▸ h2) h3
    · rw [hw] at h2
      cases h2
      have := (hu.lt _ h3).2
      omega
/-- one cell of such a row is written -/
theorem Cel.set {w : World} {b n : Nat} {f : Nat → Value} (h : Cel w b n f) (p : Nat) (hp : p < n) (v : Value) : Cel (w.setCell ⟨b, p, none⟩ v) b n (fun i => if i = p then v else f i) := by
  have e : w.setCell ⟨b, p, none⟩ v = w.setCells b p [v] := rfl
  have hsome : ∀ j, j < [v].length → (w.cell? ⟨b, p + j, none⟩).isSome = true := fun j hj => by
    rw [h.cell _ (by simp at hj; omega)]; rfl
  rw [e]
  refine ⟨by rw [size_setCells]; exact h.lt, fun i hi => ?_, fun i hi => by rw [World.frozen?_setCells]; exact h.free i hi⟩
  by_cases hip : i = p
  · subst hip
    rw [if_pos rfl]
    have h9 := World.cell?_setCells_in b [v] i w hsome 0 (by simp)
    rw [Nat.add_zero] at h9
    rw [h9]; rfl
  · rw [if_neg hip, World.cell?_setCells_out b [v] p w ⟨b, i, none⟩ (fun _ _ => by simp only [List.length_singleton]; omega)]
    exact h.cell i hi
theorem Cel.other {w : World} {b n : Nat} {f : Nat → Value} (h : Cel w b n f) (b' p : Nat) (hb : b ≠ b') (v : Value) : Cel (w.setCell ⟨b', p, none⟩ v) b n f := by
  have e : w.setCell ⟨b', p, none⟩ v = w.setCells b' p [v] := rfl
  rw [e]
  refine ⟨by rw [size_setCells]; exact h.lt, fun i hi => ?_, fun i hi => by rw [World.frozen?_setCells]; exact h.free i hi⟩
  rw [World.cell?_setCells_out b' [v] p w ⟨b, i, none⟩ (fun e2 _ => absurd e2 hb)]
  exact h.cell i hi
/-- a row of bytes of the call's own -/
theorem own_cel {w : World} {base : Nat} {v : Value} {n : Nat} {L : List UInt8} (h : w.ownsRow base 5 1 v n (L.map fun c => Value.int .u8 (c.toNat : Int))) (hn : 0 < n) (hL : L.length = n) :
    ∃ g c, v = .slice (some ⟨g, 0, none⟩) n c ∧ base ≤ g ∧ Cel w g n (Oct.rowF L) := by
  rcases h.2 with ⟨_, h0⟩ | ⟨g, cap, cur, rfl, hb, hg, hc, _, hs, ht⟩
  · omega
  · refine ⟨g, cap, rfl, hb, (Array.getElem?_eq_some_iff.1 hg).1, fun i hi => ?_, fun i hi => ?_⟩
    · have h3 : (cur.toList.take (n * 1))[i]? = some (Oct.rowF L i) := by
        rw [ht, List.getElem?_map, List.getElem?_eq_getElem (show i < L.length by omega)]
        unfold Oct.rowF
        rw [if_pos (by omega)]
        simp [List.getD, List.getElem?_eq_getElem (show i < L.length by omega)]
      rw [List.getElem?_take] at h3
      split at h3
      · unfold World.cell?
        rw [hg]
        simpa using h3
      · cases h3
    · unfold World.frozen?
      rw [hg]
      simp
end Go.Proofs.Ytcjdhnggddljbaa
