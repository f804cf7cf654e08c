/- Joined texts. -/
-- PACK: YtihpndfjcgodiaaMemI
import Derived.Test.YtihpndfjcgodiaaTw9
import Derived.ChangeSlices
import Derived.OpenShut

/- Slices of numbers: one that is read, one that the call appends to, one among the arguments. -/
namespace Go.Proofs.Ytihpndfjcgodiaa
open Go.RowKit

/-- v is a slice of numbers that holds xs -/
def IntsR (w : World) (v : Value) (xs : List Int) : Prop :=
  xs.length ≤ maxLen ∧ ∃ A c, v = .slice A xs.length c ∧ (xs = [] ∨ ∃ ad : Addr, A = some ad ∧ ad.block < w.heap.size ∧ ∀ i, i < xs.length → w.cell? (ad.add i) = some (.int .i64 (xs.getD i 0)))
/-- the same, of the call's own from block base on -/
def Ints (w : World) (base : Nat) (t : TypeId) (v : Value) (xs : List Int) : Prop := w.ownsRow base t 1 v xs.length (xs.map (Value.int .i64))
theorem Ints.read {w : World} {base : Nat} {t : TypeId} {v : Value} {xs : List Int} (h : Ints w base t v xs) : IntsR w v xs := by
  have h0 := h
  obtain ⟨h1, h2⟩ := h
  rcases h2 with ⟨rfl, hn⟩ | ⟨g, cap, cur, rfl, hb, hg, hn, hm, hsz, htk⟩
  · have hss : xs = [] := List.eq_nil_of_length_eq_zero hn
    subst hss
    exact ⟨Nat.zero_le _, none, 0, rfl, Or.inl rfl⟩
  · refine ⟨Nat.le_trans hn hm, _, _, rfl, Or.inr ⟨⟨g, 0, none⟩, rfl, (Array.getElem?_eq_some_iff.1 hg).1, fun i hi => ?_⟩⟩
    refine h0.cells (g := g) rfl i _ ?_
    simp [List.getD, hi]
theorem IntsR.below {w w' : World} {v : Value} {xs : List Int} (h : IntsR w v xs) (hb : Below w.heap.size w w') : IntsR w' v xs := by
  obtain ⟨h1, A, c, rfl, h2⟩ := h
  refine ⟨h1, A, c, rfl, ?_⟩
  rcases h2 with h2 | ⟨ad, rfl, hlt, hc⟩
  · exact Or.inl h2
  · refine Or.inr ⟨ad, rfl, Nat.lt_of_lt_of_le hlt hb.size, fun i hi => ?_⟩
    rw [hb.cell (by rw [show (ad.add i).block = ad.block from by unfold Addr.add; split <;> rfl]; exact hlt)]
    exact hc i hi
theorem IntsR.lit (w : World) (xs : List Int) (n : Nat) (hn : n = xs.length) (hm : n ≤ maxLen) (cells : Array Value) (hc : cells = (xs.map (Value.int .i64)).toArray) (t : TypeId) :
    IntsR (w.alloc (.cells cells t)) (.slice (some ⟨w.heap.size, 0, none⟩) n n) xs := by
  subst hn hc
  refine ⟨hm, _, _, rfl, Or.inr ⟨_, rfl, by simp, fun i hi => ?_⟩⟩
  have hadd : (⟨w.heap.size, 0, none⟩ : Addr).add i = ⟨w.heap.size, i, none⟩ := by unfold Addr.add; split <;> simp_all
  rw [hadd, (World.rowIs_alloc w _ t (fun k => .int .i64 (xs.getD k 0)) (fun k hk => by simp at hk; simp [List.getD, hk])).cell (by simpa using hi)]
theorem IntsR.nil (w : World) (A : Option Addr) (c : Nat) : IntsR w (.slice A 0 c) [] := ⟨Nat.zero_le _, A, c, rfl, Or.inl rfl⟩

set_option maxRecDepth 100000 in
/-- a slice of numbers among the arguments -/
theorem ints_in {H : Type} {enc : TypeId × Value → H} {w : World} {spare : Nat → Bool} {held : Bool} {fuel : Nat} {A : Option Addr} {n c : Nat} {d : DataW H} {ps : List MemPlace} {t e : TypeId}
    (ht : Try.prog.underlying t = some (.slice e)) (he : Try.prog.underlying e = some (.int .i64)) (hce : Try.prog.cellsOf e = 1)
    (hf : DataW.trod enc Try.prog w 0 spare held fuel t (Value.slice A n c).cells.toList = some (d, ps)) (hlt : ∀ x ∈ ps, x.block < w.heap.size) :
    ∃ xs, IntsR w (.slice A n c) xs ∧ n = xs.length ∧ ∀ x ∈ xs, (Lit.int .i64 x).wf = true := by
  rcases Go.ChangeShapes.open_ints ht he hce hf with ⟨hcs, hx⟩ | ⟨a, len', cap', zs, hcs, _, hl, hm, hz, hx, hcell, hws⟩
  · simp [Value.cells] at hcs
    obtain ⟨rfl, rfl, rfl⟩ := hcs
    exact ⟨[], IntsR.nil w none 0, rfl, by simp⟩
  · simp [Value.cells] at hcs
    obtain ⟨rfl, rfl, rfl⟩ := hcs
    simp only [Prod.mk.injEq] at hx
    obtain ⟨rfl, rfl⟩ := hx
    have hn : n ≤ zs.length := by rw [hz]; split <;> omega
    have hlen : (zs.take n).length = n := by simp; omega
    refine ⟨zs.take n, ⟨by rw [hlen]; exact Nat.le_trans hl hm, some a, c, by rw [hlen], ?_⟩, hlen.symm, fun x hx => hws x (List.mem_of_mem_take hx)⟩
    by_cases h0 : n = 0
    · left; rw [h0]; rfl
    · right
      refine ⟨a, rfl, ?_, fun i hi => ?_⟩
      · obtain ⟨b, off, spot⟩ := a
        have hspot : spot = none := by simpa [Addr.add] using World.cell?_spot (hcell 0 (by omega))
        subst hspot
        exact hlt (.cell b off) (MemPlace.mem_row.2 ⟨0, by omega, by simp⟩)
      · rw [hlen] at hi
        rw [hcell i (by omega)]
        simp [List.getD, hi]
end Go.Proofs.Ytihpndfjcgodiaa
