/- Joined texts. -/
-- PACK: YtihpndfjcgodiaaAtt
import Derived.Test.YtihpndfjcgodiaaTw25
import Derived.Test.YtihpndfjcgodiaaTw9
import Derived.Deep.QuietTactic
import Derived.BigQuiet
import Derived.IntWalk
import Derived.Laws.StructEq

/- Attributes: slices of them, and which may be. -/
namespace Go.Proofs.Ytihpndfjcgodiaa
open Go.RowKit Go.Deep
namespace Att
abbrev A2 := Int × ByteArray
def ac (p : A2) : List Value := [.int .i64 p.1, .string p.2]
theorem ac_len (p : A2) : (ac p).length = 2 := rfl
/-- v is a slice of attributes -/
def AttsS (w : World) (v : Value) (l : List A2) : Prop := SlR w 2 v l.length (l.flatMap ac)
theorem AttsS.since {w w' : World} {v : Value} {l : List A2} (h : AttsS w v l) (hs : Since w w') : AttsS w' v l := SlR.since h hs
theorem AttsS.nil (w : World) : AttsS w (.slice none 0 0) [] := SlR.nil w 2
theorem AttsS.own {w : World} {base : Nat} {e : TypeId} {v : Value} {l : List A2} (h : w.ownsRow base e 2 v l.length (l.flatMap ac)) : AttsS w v l := SlR.own h
theorem AttsS.empty {w : World} {v : Value} {l : List A2} (h : AttsS w v l) (hn : l.length = 0) : ∃ A c, v = .slice A 0 c ∧ c ≤ maxLen := SlR.empty h hn
theorem AttsS.slice {w : World} {v : Value} {l : List A2} (h : AttsS w v l) : ∃ A c, v = .slice A l.length c ∧ l.length ≤ c ∧ c ≤ maxLen := SlR.slice h
theorem AttsS.form {w : World} {v : Value} {l : List A2} (h : AttsS w v l) (hn : 0 < l.length) :
    ∃ b o c, v = .slice (some ⟨b, o, none⟩) l.length c ∧ l.length ≤ c ∧ c ≤ maxLen ∧ b < w.heap.size ∧ ∀ i p, l[i]? = some p → w.cell? ⟨b, o + i * 2, none⟩ = some (.int .i64 p.1) ∧ w.cell? ⟨b, o + i * 2 + 1, none⟩ = some (.string p.2) := by
  obtain ⟨b, o, c, hv, h1, h2, h3, h4⟩ := SlR.form h hn
  refine ⟨b, o, c, hv, h1, h2, h3, fun i p hp => ?_⟩
  have e0 := flatMap_get ac 2 ac_len l i p hp 0 (by decide)
  have e1 := flatMap_get ac 2 ac_len l i p hp 1 (by decide)
  exact ⟨h4 (i * 2) _ e0, by rw [Nat.add_assoc]; exact h4 (i * 2 + 1) _ e1⟩
/-- a call that reads attributes -/
def RdA (f : Nat) (l : List A2) (args : Value → Array Value) (v : Value) : Prop := ∀ w x, AttsS w x l → Calls Try.prog f (args x) w fun e w' => e = .returned v ∧ Below w.heap.size w w'
set_option maxRecDepth 100000 in
theorem RdA.calls0 {f : Nat} {l : List A2} {args : Value → Array Value} {v x : Value} (h : RdA f l args v) {w : World} (hx : AttsS w x l) {R : Ending → World → Prop} (k : ∀ w', Since w w' → R (.returned v) w') : Calls Try.prog f (args x) w R :=
  (h w x hx).mono fun _ _ ⟨he, hb⟩ => by subst he; exact k _ hb
theorem take_snoc {α : Type} (l : List α) (k : Nat) (p : α) (h : l[k]? = some p) : l.take (k + 1) = l.take k ++ [p] := by
  obtain ⟨h1, h2⟩ := List.getElem?_eq_some_iff.1 h
  rw [List.take_succ_eq_append_getElem h1, h2]
theorem belowN (w : World) (q : Nat) : Below w.heap.size w (w.drewN q) := ⟨rfl, rfl, rfl, Nat.le_refl _, fun _ _ => rfl⟩
theorem row_since {w w' : World} {base : Nat} {E : TypeId} {size : Nat} {v : Value} {n : Nat} {xs : List Value} (h : w.ownsRow base E size v n xs) (hs : Since w w') : w'.ownsRow base E size v n xs := by
  obtain ⟨h1, h2⟩ := h
  refine ⟨h1, ?_⟩
  rcases h2 with h2 | ⟨g, cap, cur, rfl, hb, hg, r⟩
  · exact Or.inl h2
  · exact Or.inr ⟨g, cap, cur, rfl, hb, (Below.block hs g (Array.getElem?_eq_some_iff.1 hg).1).trans hg, r⟩
/-- which attributes may be -/
def prevA (l : List A2) : Nat → Int
  | 0 => 0
  | k+1 => match l[k]? with | some p => p.1 | none => 0
def stepA (l : List A2) (k : Nat) (p : A2) : Bool := decide (prevA l k < p.1) && decide (p.1 ≤ 65535) && decide (p.2.size ≤ 255)
def attN (l : List A2) : Nat → Bool
  | 0 => true
  | k+1 => attN l k && (match l[k]? with | some p => stepA l k p | none => true)
def attOk (l : List A2) : Bool := decide (l.length ≤ 32) && attN l l.length
def attE (l : List A2) : Int := if attOk l then 0 else 11
theorem attN_step (l : List A2) (k : Nat) (p : A2) (h : l[k]? = some p) : attN l (k + 1) = (attN l k && stepA l k p) := by
  show (attN l k && (match l[k]? with | some p => stepA l k p | none => true)) = _
  rw [h]
theorem attN_le (l : List A2) (k m : Nat) (hk : k ≤ m) (h : attN l m = true) : attN l k = true := by
  induction m with
  | zero => obtain rfl : k = 0 := by omega
            exact h
  | succ m ih =>
    by_cases e : k = m + 1
    · rw [e]; exact h
    · refine ih (by omega) ?_
      have h2 : (attN l m && (match l[m]? with | some p => stepA l m p | none => true)) = true := h
      rw [Bool.and_eq_true] at h2
      exact h2.1
theorem prevA_at (l : List A2) (k : Nat) (t : Int) (s : ByteArray) (h : l[k]? = some (t, s)) : prevA l (k + 1) = t := by
  show (match l[k]? with | some p => p.1 | none => 0) = t
  rw [h]
theorem attE_bad (l : List A2) (k : Nat) (hk : k ≤ l.length) (h : attN l k = false) : attE l = 11 := by
  unfold attE attOk
  have : attN l l.length = false := by
    cases h2 : attN l l.length with
    | false => rfl
    | true => rw [attN_le l k _ hk h2] at h; cases h
  rw [this, Bool.and_false]; rfl
theorem attE_long (l : List A2) (h : 32 < l.length) : attE l = 11 := by
  unfold attE attOk
  rw [decide_eq_false (by omega)]; rfl
theorem attE_ok (l : List A2) (h : l.length ≤ 32) (h2 : attN l l.length = true) : attE l = 0 := by
  unfold attE attOk
  rw [decide_eq_true h, h2]; rfl
theorem attN_all (l : List A2) (k : Nat) (h : attN l k = true) : 0 ≤ prevA l k ∧ ∀ i p, i < k → l[i]? = some p → 1 ≤ p.1 ∧ p.1 ≤ 65535 ∧ p.2.size ≤ 255 := by
  induction k with
  | zero => exact ⟨Int.le_refl _, fun i p hi => by omega⟩
  | succ k ih =>
    obtain ⟨g1, g2⟩ := ih (attN_le l k _ (by omega) h)
    have key : ∀ p, l[k]? = some p → 1 ≤ p.1 ∧ p.1 ≤ 65535 ∧ p.2.size ≤ 255 := by
      intro p hp
      rw [attN_step l k p hp, Bool.and_eq_true] at h
      have h2 := h.2
      unfold stepA at h2
      simp only [Bool.and_eq_true, decide_eq_true_eq] at h2
      omega
    refine ⟨?_, fun i p hi hp => ?_⟩
    · show 0 ≤ (match l[k]? with | some p => p.1 | none => 0)
      cases hp : l[k]? with
      | none => exact Int.le_refl _
      | some p => have := (key p hp).1; show 0 ≤ p.1; omega
    · by_cases e : i = k
      · subst e; exact key p hp
      · exact g2 i p (by omega) hp
theorem attOk_all (l : List A2) (h : attOk l = true) : l.length ≤ 32 ∧ ∀ p ∈ l, 1 ≤ p.1 ∧ p.1 ≤ 65535 ∧ p.2.size ≤ 255 := by
  unfold attOk at h
  rw [Bool.and_eq_true] at h
  refine ⟨of_decide_eq_true h.1, fun p hp => ?_⟩
  obtain ⟨i, hi, rfl⟩ := List.mem_iff_getElem.1 hp
  exact (attN_all l _ h.2).2 i _ hi (List.getElem?_eq_getElem hi)
theorem attE_zero (l : List A2) : attE l = 0 ↔ attOk l = true := by
  unfold attE
  cases attOk l <;> simp
/-- are there at most so many, of at most 300 bytes each -/
def fewB (l : List A2) (m : Nat) : Bool := decide (l.length ≤ m) && l.all fun p => decide (p.2.size ≤ 300)
theorem fewB_spec (l : List A2) (m : Nat) (h : fewB l m = true) : l.length ≤ m ∧ ∀ p ∈ l, p.2.size ≤ 300 := by
  unfold fewB at h
  rw [Bool.and_eq_true, List.all_eq_true] at h
  exact ⟨of_decide_eq_true h.1, fun s hs => of_decide_eq_true (h.2 s hs)⟩
end Att
end Go.Proofs.Ytihpndfjcgodiaa
