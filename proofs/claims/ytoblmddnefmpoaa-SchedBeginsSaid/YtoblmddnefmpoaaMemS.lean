/- Slices of strings: one that the call appends to, and one that is read. -/
import Derived.Test.YtoblmddnefmpoaaMemA
namespace Go.Proofs.Ytoblmddnefmpoaa
open Go.RowKit

theorem elemS : ElemIs 48 9 (.string ⟨#[]⟩) 1 16 := ⟨Try.underlying48, by kernel_rfl, rfl, by decide⟩

/-- v is a slice of strings that holds ss -/
def StrsR (w : World) (v : Value) (ss : List ByteArray) : Prop :=
  ss.length ≤ maxLen ∧ ∃ A c, v = .slice A ss.length c ∧ (ss = [] ∨ ∃ ad : Addr, A = some ad ∧ ad.block < w.heap.size ∧ ∀ i, i < ss.length → w.cell? (ad.add i) = some (.string (ss.getD i ⟨#[]⟩)))

/-- the same, of the call's own from block base on -/
def Strs (w : World) (base : Nat) (v : Value) (ss : List ByteArray) : Prop := w.ownsRow base 9 1 v ss.length (ss.map Value.string)

theorem Strs.read {w : World} {base : Nat} {v : Value} {ss : List ByteArray} (h : Strs w base v ss) : StrsR w v ss := by
  have h0 := h
  obtain ⟨h1, h2⟩ := h
  rcases h2 with ⟨rfl, hn⟩ | ⟨g, cap, cur, rfl, hb, hg, hn, hm, hsz, htk⟩
  · have hss : ss = [] := List.eq_nil_of_length_eq_zero hn
    subst hss
    exact ⟨Nat.zero_le _, none, 0, rfl, Or.inl rfl⟩
  · refine ⟨Nat.le_trans hn hm, _, _, rfl, Or.inr ⟨⟨g, 0, none⟩, rfl, (Array.getElem?_eq_some_iff.1 hg).1, fun i hi => ?_⟩⟩
    refine h0.cells (g := g) rfl i _ ?_
    simp [List.getD, hi]

theorem StrsR.below {w w' : World} {v : Value} {ss : List ByteArray} (h : StrsR w v ss) (hb : Below w.heap.size w w') : StrsR w' v ss := by
  obtain ⟨h1, A, c, rfl, h2⟩ := h
  refine ⟨h1, A, c, rfl, ?_⟩
  rcases h2 with h2 | ⟨ad, rfl, hlt, hc⟩
  · exact Or.inl h2
  · refine Or.inr ⟨ad, rfl, Nat.lt_of_lt_of_le hlt hb.size, fun i hi => ?_⟩
    rw [hb.cell (by rw [show (ad.add i).block = ad.block from by unfold Addr.add; split <;> rfl]; exact hlt)]
    exact hc i hi

/-- a literal list of texts, as a call with so many parts has it -/
theorem StrsR.lit (w : World) (ss : List ByteArray) (n : Nat) (hn : n = ss.length) (hm : n ≤ maxLen) (cells : Array Value) (hc : cells = (ss.map Value.string).toArray) (t : TypeId) :
    StrsR (w.alloc (.cells cells t)) (.slice (some ⟨w.heap.size, 0, none⟩) n n) ss := by
  subst hn hc
  refine ⟨hm, _, _, rfl, Or.inr ⟨_, rfl, by simp, fun i hi => ?_⟩⟩
  have hadd : (⟨w.heap.size, 0, none⟩ : Addr).add i = ⟨w.heap.size, i, none⟩ := by unfold Addr.add; split <;> simp_all
  rw [hadd, (World.rowIs_alloc w _ t (fun k => .string (ss.getD k ⟨#[]⟩)) (fun k hk => by simp at hk; simp [List.getD, hk])).cell (by simpa using hi)]

/-- a call that makes a slice of strings of its own -/
def MakS (f : Nat) (args : Array Value) (ss : List ByteArray) : Prop := ∀ w, Calls Try.prog f args w fun e w' => ∃ v, e = .returned v ∧ Strs w' w.heap.size v ss ∧ Below w.heap.size w w'
theorem MakS.calls {f : Nat} {args : Array Value} {ss : List ByteArray} (h : MakS f args ss) {W0 w : World} (hs : Since W0 w) {R : Ending → World → Prop} (k : ∀ v w', Strs w' w.heap.size v ss → Below w.heap.size w w' → Since W0 w' → R (.returned v) w') : Calls Try.prog f args w R :=
  (h w).mono fun _ _ ⟨v, he, ho, hb⟩ => by subst he; exact k v _ ho hb (hs.step hb)

/-- a call that is handed a slice of strings at one place, and answers by what the strings are -/
def Reads (f : Nat) (args : Value → Array Value) (ss : List ByteArray) (v : Value) : Prop := ∀ w x, StrsR w x ss → Calls Try.prog f (args x) w fun e w' => e = .returned v ∧ Below w.heap.size w w'
theorem Reads.calls {f : Nat} {args : Value → Array Value} {ss : List ByteArray} {v x : Value} (h : Reads f args ss v) {W0 w : World} (hs : Since W0 w) (hx : StrsR w x ss) {R : Ending → World → Prop} (k : ∀ w', Since W0 w' → R (.returned v) w') : Calls Try.prog f (args x) w R :=
  (h w x hx).mono fun _ _ ⟨he, hb⟩ => by subst he; exact k _ (hs.step hb)
end Go.Proofs.Ytoblmddnefmpoaa
