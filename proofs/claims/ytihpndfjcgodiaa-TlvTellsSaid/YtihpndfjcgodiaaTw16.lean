/- Joined texts. -/
-- PACK: YtihpndfjcgodiaaSl
import Derived.Test.YtihpndfjcgodiaaTw9
import Derived.ChangeSlices
import Derived.OpenShut
import Derived.Laws.Slices

/- Slices that are read: n elements of k cells each, all cells in one list. -/
namespace Go.Proofs.Ytihpndfjcgodiaa
open Go.RowKit

/-- v is a slice of n elements of k cells each, and the cells are cs -/
def SlR (w : World) (k : Nat) (v : Value) (n : Nat) (cs : List Value) : Prop :=
  cs.length = n * k ∧ ∃ A c, v = .slice A n c ∧ n ≤ c ∧ c ≤ maxLen ∧ (n = 0 ∨ ∃ b o, A = some ⟨b, o, none⟩ ∧ b < w.heap.size ∧ ∀ i u, cs[i]? = some u → w.cell? ⟨b, o + i, none⟩ = some u)
theorem SlR.below {w w' : World} {k n : Nat} {v : Value} {cs : List Value} (h : SlR w k v n cs) (hb : Below w.heap.size w w') : SlR w' k v n cs := by
  obtain ⟨hl, A, c, rfl, h1, h2, h3⟩ := h
  refine ⟨hl, A, c, rfl, h1, h2, ?_⟩
  rcases h3 with h3 | ⟨b, o, rfl, hlt, hc⟩
  · exact Or.inl h3
  · exact Or.inr ⟨b, o, rfl, Nat.lt_of_lt_of_le hlt hb.size, fun i u hu => (hb.cell (p := ⟨b, o + i, none⟩) hlt).trans (hc i u hu)⟩
theorem SlR.since {w w' : World} {k n : Nat} {v : Value} {cs : List Value} (h : SlR w k v n cs) (hs : Since w w') : SlR w' k v n cs := SlR.below h hs
theorem SlR.own {w : World} {base : Nat} {e : TypeId} {k n : Nat} {v : Value} {cs : List Value} (h : w.ownsRow base e k v n cs) : SlR w k v n cs := by
  obtain ⟨h1, h2⟩ := h
  rcases h2 with ⟨rfl, hn⟩ | ⟨g, cap, cur, rfl, hb, hg, hn, hm, hsz, htk⟩
  · subst hn
    exact ⟨h1, none, 0, rfl, Nat.le_refl _, Nat.zero_le _, Or.inl rfl⟩
  · refine ⟨h1, _, _, rfl, hn, hm, Or.inr ⟨g, 0, rfl, (Array.getElem?_eq_some_iff.1 hg).1, fun i u hu => ?_⟩⟩
    unfold World.cell?
    rw [hg]
    rw [← htk, List.getElem?_take] at hu
    split at hu
    · rw [Nat.zero_add]
      simpa using hu
    · cases hu
theorem SlR.nil (w : World) (k : Nat) : SlR w k (.slice none 0 0) 0 [] := ⟨by simp, none, 0, rfl, Nat.le_refl _, Nat.zero_le _, Or.inl rfl⟩
theorem SlR.empty {w : World} {k n : Nat} {v : Value} {cs : List Value} (h : SlR w k v n cs) (hn : n = 0) : ∃ A c, v = .slice A 0 c ∧ c ≤ maxLen := by
  subst hn
  obtain ⟨_, A, c, hv, _, hc, _⟩ := h
  exact ⟨A, c, hv, hc⟩
theorem SlR.form {w : World} {k n : Nat} {v : Value} {cs : List Value} (h : SlR w k v n cs) (hn : 0 < n) :
    ∃ b o c, v = .slice (some ⟨b, o, none⟩) n c ∧ n ≤ c ∧ c ≤ maxLen ∧ b < w.heap.size ∧ ∀ i u, cs[i]? = some u → w.cell? ⟨b, o + i, none⟩ = some u := by
  obtain ⟨_, A, c, rfl, h1, h2, h3⟩ := h
  rcases h3 with h3 | ⟨b, o, rfl, hlt, hc⟩
  · omega
  · exact ⟨b, o, c, rfl, h1, h2, hlt, hc⟩
theorem SlR.slice {w : World} {k n : Nat} {v : Value} {cs : List Value} (h : SlR w k v n cs) : ∃ A c, v = .slice A n c ∧ n ≤ c ∧ c ≤ maxLen := by
  obtain ⟨_, A, c, rfl, h1, h2, _⟩ := h
  exact ⟨A, c, rfl, h1, h2⟩
theorem SlR.le {w : World} {k n : Nat} {v : Value} {cs : List Value} (h : SlR w k v n cs) : n ≤ 9223372036854775807 := by
  obtain ⟨_, A, c, rfl, h1, h2, _⟩ := h
  unfold maxLen at h2
  omega
/-- a literal -/
theorem SlR.lit (w : World) (k n : Nat) (cs : List Value) (hn : cs.length = n * k) (hm : n ≤ maxLen) (C : Array Value) (hc : C = cs.toArray) (t : TypeId) :
    SlR (w.alloc (.cells C t)) k (.slice (some ⟨w.heap.size, 0, none⟩) n n) n cs := by
  subst hc
  refine ⟨hn, _, _, rfl, Nat.le_refl _, hm, Or.inr ⟨_, _, rfl, by simp, fun i u hu => ?_⟩⟩
  unfold World.cell?
  rw [heap_alloc_new w]
  simpa using hu
set_option maxRecDepth 100000 in
/-- 's[j:]', s of one-cell elements -/
theorem SlR.tail {w : World} {n : Nat} {A : Option Addr} {c : Nat} {cs : List Value} (h : SlR w 1 (.slice A n c) n cs) {t e : TypeId} (ht : Try.prog.underlying t = some (.slice e)) (hz : ∀ w, (Go.sizeOf e).run Try.prog w = .ok 1 w)
    (j m d : Nat) (hm : n = j + m) (hd : c = j + d) :
    ∃ A', SlR w 1 (.slice A' m d) m (cs.drop j) ∧ ∀ W, (Instr.slice t (.slice A n c) (some (.int .i64 (j : Int))) none none).run Try.prog W = .ok (.slice A' m d) W := by
  have hl : cs.length = n * 1 := h.1
  obtain ⟨_, A9, c9, h9, h1, h2, h3⟩ := h
  obtain ⟨rfl, -, rfl⟩ := Value.slice.inj h9
  have ht' : Try.prog.underlying t = some (.slice (Try.prog.elem t)) := by simp [Program.elem, ht]
  have he : Try.prog.elem t = e := by simp [Program.elem, ht]
  refine ⟨if c = j then A else A.map (·.add (j * 1)), ⟨by rw [List.length_drop, hl]; omega, _, _, rfl, by omega, by omega, ?_⟩, fun W => ?_⟩
  · by_cases h0 : m = 0
    · exact Or.inl h0
    · rcases h3 with h3 | ⟨b, o, rfl, hlt, hc⟩
      · omega
      · refine Or.inr ⟨b, o + j, ?_, hlt, fun i u hu => ?_⟩
        · rw [if_neg (by omega)]
          by_cases hj : j = 0 <;> simp [Addr.add, hj]
        · rw [List.getElem?_drop] at hu
          rw [Nat.add_assoc]
          exact hc _ _ hu
  · rw [run_slice_l W t _ _ _ ht' .i64 _ (by omega) (by omega), he, hz]
    simp only [Result.andThen, sliced, Int.toNat_natCast]
    rw [show n - j = m from by omega, show c - j = d from by omega]
set_option maxRecDepth 100000 in
/-- 's[i:j]', s of one-cell elements -/
theorem SlR.part {w : World} {n : Nat} {A : Option Addr} {c : Nat} {cs : List Value} (h : SlR w 1 (.slice A n c) n cs) {t e : TypeId} (ht : Try.prog.underlying t = some (.slice e)) (hz : ∀ w, (Go.sizeOf e).run Try.prog w = .ok 1 w)
    (i j m d : Nat) (hj : j ≤ n) (hm : j = i + m) (hd : c = i + d) :
    ∃ A', SlR w 1 (.slice A' m d) m ((cs.drop i).take m) ∧ ∀ W, (Instr.slice t (.slice A n c) (some (.int .i64 (i : Int))) (some (.int .i64 (j : Int))) none).run Try.prog W = .ok (.slice A' m d) W := by
  have hl : cs.length = n * 1 := h.1
  obtain ⟨_, A9, c9, h9, h1, h2, h3⟩ := h
  obtain ⟨rfl, -, rfl⟩ := Value.slice.inj h9
  have ht' : Try.prog.underlying t = some (.slice (Try.prog.elem t)) := by simp [Program.elem, ht]
  have he : Try.prog.elem t = e := by simp [Program.elem, ht]
  refine ⟨if c = i then A else A.map (·.add (i * 1)), ⟨by rw [List.length_take, List.length_drop, hl]; omega, _, _, rfl, by omega, by omega, ?_⟩, fun W => ?_⟩
  · by_cases h0 : m = 0
    · exact Or.inl h0
    · rcases h3 with h3 | ⟨b, o, rfl, hlt, hc⟩
      · omega
      · refine Or.inr ⟨b, o + i, ?_, hlt, fun q u hu => ?_⟩
        · rw [if_neg (by omega)]
          by_cases hj : i = 0 <;> simp [Addr.add, hj]
        · rw [List.getElem?_take] at hu
          split at hu
          · rw [List.getElem?_drop] at hu
            rw [Nat.add_assoc]
            exact hc _ _ hu
          · cases hu
  · rw [run_slice_lh W t _ _ _ ht' .i64 .i64 _ _ (by omega) (by omega) (by omega), he, hz]
    simp only [Result.andThen, sliced, Int.toNat_natCast]
    rw [show j - i = m from by omega, show c - i = d from by omega]

/-- slices of numbers, of strings -/
def IntsS (w : World) (v : Value) (xs : List Int) : Prop := SlR w 1 v xs.length (xs.map (Value.int .i64))
def StrsS (w : World) (v : Value) (ss : List ByteArray) : Prop := SlR w 1 v ss.length (ss.map Value.string)
theorem IntsS.since {w w' : World} {v : Value} {xs : List Int} (h : IntsS w v xs) (hs : Since w w') : IntsS w' v xs := SlR.below h hs
theorem StrsS.since {w w' : World} {v : Value} {xs : List ByteArray} (h : StrsS w v xs) (hs : Since w w') : StrsS w' v xs := SlR.below h hs
theorem IntsS.nil (w : World) : IntsS w (.slice none 0 0) [] := SlR.nil w 1
theorem StrsS.nil (w : World) : StrsS w (.slice none 0 0) [] := SlR.nil w 1
theorem IntsS.form {w : World} {v : Value} {xs : List Int} (h : IntsS w v xs) (hn : 0 < xs.length) :
    ∃ b o c, v = .slice (some ⟨b, o, none⟩) xs.length c ∧ xs.length ≤ c ∧ c ≤ maxLen ∧ b < w.heap.size ∧ ∀ i, i < xs.length → w.cell? ⟨b, o + i, none⟩ = some (.int .i64 (xs.getD i 0)) := by
  obtain ⟨b, o, c, hv, h1, h2, h3, h4⟩ := SlR.form h hn
  exact ⟨b, o, c, hv, h1, h2, h3, fun i hi => h4 i _ (by simp [List.getD, hi])⟩
theorem StrsS.form {w : World} {v : Value} {xs : List ByteArray} (h : StrsS w v xs) (hn : 0 < xs.length) :
    ∃ b o c, v = .slice (some ⟨b, o, none⟩) xs.length c ∧ xs.length ≤ c ∧ c ≤ maxLen ∧ b < w.heap.size ∧ ∀ i, i < xs.length → w.cell? ⟨b, o + i, none⟩ = some (.string (xs.getD i ⟨#[]⟩)) := by
  obtain ⟨b, o, c, hv, h1, h2, h3, h4⟩ := SlR.form h hn
  exact ⟨b, o, c, hv, h1, h2, h3, fun i hi => h4 i _ (by simp [List.getD, hi])⟩
theorem IntsS.le {w : World} {v : Value} {xs : List Int} (h : IntsS w v xs) : xs.length ≤ 9223372036854775807 := SlR.le h
theorem StrsS.le {w : World} {v : Value} {xs : List ByteArray} (h : StrsS w v xs) : xs.length ≤ 9223372036854775807 := SlR.le h
theorem IntsS.slice {w : World} {v : Value} {xs : List Int} (h : IntsS w v xs) : ∃ A c, v = .slice A xs.length c ∧ xs.length ≤ c ∧ c ≤ maxLen := SlR.slice h
theorem StrsS.slice {w : World} {v : Value} {xs : List ByteArray} (h : StrsS w v xs) : ∃ A c, v = .slice A xs.length c ∧ xs.length ≤ c ∧ c ≤ maxLen := SlR.slice h

set_option maxRecDepth 100000 in
/-- a slice of numbers among the arguments -/
theorem ints_arg {H : Type} {enc : TypeId × Value → H} {w : World} {spare : Nat → Bool} {held : Bool} {fuel : Nat} {A : Option Addr} {n c : Nat} {d : DataW H} {ps : List MemPlace} {t e : TypeId}
    (ht : Try.prog.underlying t = some (.slice e)) (he : Try.prog.underlying e = some (.int .i64)) (hce : Try.prog.cellsOf e = 1)
    (hf : DataW.trod enc Try.prog w 0 spare held fuel t (Value.slice A n c).cells.toList = some (d, ps)) (hlt : ∀ x ∈ ps, x.block < w.heap.size) :
    ∃ xs, IntsS w (.slice A n c) xs ∧ n = xs.length ∧ ∀ x ∈ xs, (Lit.int .i64 x).wf = true := by
  rcases Go.ChangeShapes.open_ints ht he hce hf with ⟨hcs, hx⟩ | ⟨a, len', cap', zs, hcs, _, hl, hm, hz, hx, hcell, hws⟩
  · simp [Value.cells] at hcs
    obtain ⟨rfl, rfl, rfl⟩ := hcs
    exact ⟨[], IntsS.nil w, rfl, by simp⟩
  · simp [Value.cells] at hcs
    obtain ⟨rfl, rfl, rfl⟩ := hcs
    simp only [Prod.mk.injEq] at hx
    obtain ⟨rfl, rfl⟩ := hx
    have hn : n ≤ zs.length := by rw [hz]; split <;> omega
    have hlen : (zs.take n).length = n := by simp; omega
    refine ⟨zs.take n, ⟨by simp, some a, c, by rw [hlen], by rw [hlen]; exact hl, hm, ?_⟩, hlen.symm, fun x hx => hws x (List.mem_of_mem_take hx)⟩
    by_cases h0 : n = 0
    · left; rw [h0]; rfl
    · right
      obtain ⟨b, off, spot⟩ := a
      have hspot : spot = none := by simpa [Addr.add] using World.cell?_spot (hcell 0 (by omega))
      subst hspot
      refine ⟨b, off, rfl, hlt (.cell b off) (MemPlace.mem_row.2 ⟨0, by omega, by simp⟩), fun i u hu => ?_⟩
      obtain ⟨hi, hu2⟩ := List.getElem?_eq_some_iff.1 hu
      simp only [List.length_map, hlen] at hi
      have h9 := hcell i (by omega)
      have hadd : (⟨b, off, none⟩ : Addr).add i = ⟨b, off + i, none⟩ := by unfold Addr.add; split <;> simp_all
      rw [hadd] at h9
      rw [h9, ← hu2]
      simp [List.getD, show i < zs.length from by omega]
end Go.Proofs.Ytihpndfjcgodiaa
