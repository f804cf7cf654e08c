/- Joined texts. -/
-- PACK: YtcjdhnggddljbaaBase YtcjdhnggddljbaaSetM
import Derived.Test.YtcjdhnggddljbaaRows
import Derived.WalkKit
import Derived.WalkSpells
import Derived.WalkLawsBesides
import Derived.Lib.Hide
import Derived.Outline

/- Words that every text of this seat uses: a call that only reckons, and the bounds of integers. -/
namespace Go.Proofs.Ytcjdhnggddljbaa
open Go.RowKit

/-- a call that only reckons, and returns v -/
def Ret (f : Nat) (args : Array Value) (v : Value) : Prop := ∀ w, Calls Try.prog f args w fun e w' => e = .returned v ∧ w = w'
set_option maxRecDepth 100000 in
theorem Ret.calls {f : Nat} {args : Array Value} {v : Value} (h : Ret f args v) {w : World} {R : Ending → World → Prop} (k : R (.returned v) w) : Calls Try.prog f args w R :=
  (h w).mono fun _ _ ⟨he, hw⟩ => by subst he; subst hw; exact k
/-- a call that may make memory, and turns none that there is, and returns v -/
def Mak (f : Nat) (args : Array Value) (v : Value) : Prop := ∀ w, Calls Try.prog f args w fun e w' => e = .returned v ∧ Below w.heap.size w w'
theorem Ret.mak {f : Nat} {args : Array Value} {v : Value} (h : Ret f args v) : Mak f args v :=
  fun w => (h w).mono fun _ _ ⟨he, hw⟩ => by subst he; subst hw; exact ⟨rfl, Below.refl _ _⟩

/-- what was there when the call began is as it was -/
def Since (W0 w : World) : Prop := Below W0.heap.size W0 w
theorem Since.refl (w : World) : Since w w := Below.refl _ _
theorem Since.step {W0 w w' : World} (h : Since W0 w) (hb : Below w.heap.size w w') : Since W0 w' := Below.trans h (Below.mono hb (Below.size h))
theorem Since.alloc {W0 w : World} (h : Since W0 w) (o : Obj) : Since W0 (w.alloc o) := Below.alloc h (Below.size h) o
theorem Since.drew {W0 w : World} (h : Since W0 w) : Since W0 w.drew := Below.drew h
theorem Since.below {W0 w : World} (h : Since W0 w) : Below W0.heap.size W0 w := h
set_option maxRecDepth 100000 in
theorem Mak.calls {f : Nat} {args : Array Value} {v : Value} (h : Mak f args v) {W0 w : World} (hs : Since W0 w) {R : Ending → World → Prop} (k : ∀ w', Since W0 w' → R (.returned v) w') : Calls Try.prog f args w R :=
  (h w).mono fun _ _ ⟨he, hb⟩ => by subst he; exact k _ (hs.step hb)
set_option maxRecDepth 100000 in
theorem Mak.calls0 {f : Nat} {args : Array Value} {v : Value} (h : Mak f args v) {w : World} {R : Ending → World → Prop} (k : ∀ w', Below w.heap.size w w' → R (.returned v) w') : Calls Try.prog f args w R :=
  (h w).mono fun _ _ ⟨he, hb⟩ => by subst he; exact k _ hb

theorem u8_of_wf {n : Int} (h : (Lit.int .u8 n).wf = true) : 0 ≤ n ∧ n ≤ 255 := by
  simpa [Lit.wf, IntKind.min, IntKind.max, IntKind.signed, IntKind.bits] using h
theorem i64_of_wf {n : Int} (h : (Lit.int .i64 n).wf = true) : -9223372036854775808 ≤ n ∧ n ≤ 9223372036854775807 := by
  simpa [Lit.wf, IntKind.min, IntKind.max, IntKind.signed, IntKind.bits] using h
theorem u64_of_wf {n : Int} (h : (Lit.int .u64 n).wf = true) : 0 ≤ n ∧ n ≤ 18446744073709551615 := by
  simpa [Lit.wf, IntKind.min, IntKind.max, IntKind.signed, IntKind.bits] using h
end Go.Proofs.Ytcjdhnggddljbaa

/- Package setof: plain mathematics: the order of strings, and what is sorted. -/
namespace Go.Proofs.Ytcjdhnggddljbaa
namespace Setof
def gz (l : List UInt8) (i : Nat) : UInt8 := l.getD i 0
theorem u8_pos {y : UInt8} (h : (0 : UInt8) ≠ y) : (0 : UInt8) < y := by
  rw [UInt8.lt_iff_toNat_lt]
  have : y.toNat ≠ 0 := fun e => h (UInt8.toNat_inj.1 (by rw [e]; rfl))
  show 0 < y.toNat
  omega
theorem u8_not {x : UInt8} : ¬ x < 0 := by rw [UInt8.lt_iff_toNat_lt]; exact Nat.not_lt_zero _
theorem less_at : ∀ (i : Nat) (a b : List UInt8), (∀ j, j < i → gz a j = gz b j) → gz a i ≠ gz b i → (a < b ↔ gz a i < gz b i) := by
  intro i
  induction i with
  | zero =>
    intro a b _ hne
    match a, b with
    | [], [] => exact absurd rfl hne
    | [], y :: b => exact ⟨fun _ => u8_pos hne, fun _ => List.nil_lt_cons _ _⟩
    | x :: a, [] => exact ⟨fun h => absurd h (List.not_lt_nil _), fun h => absurd h u8_not⟩
    | x :: a, y :: b =>
      rw [List.cons_lt_cons_iff]
      exact ⟨fun h => h.elim id (fun h2 => absurd h2.1 hne), Or.inl⟩
  | succ i ih =>
    intro a b hp hne
    have h0 := hp 0 (by omega)
    match a, b with
    | [], [] => exact absurd rfl hne
    | [], y :: b => exact ⟨fun _ => u8_pos hne, fun _ => List.nil_lt_cons _ _⟩
    | x :: a, [] => exact ⟨fun h => absurd h (List.not_lt_nil _), fun h => absurd h u8_not⟩
    | x :: a, y :: b =>
      have hxy : x = y := h0
      subst hxy
      rw [List.cons_lt_cons_iff]
      have := ih a b (fun j hj => hp (j + 1) (by omega)) hne
      exact ⟨fun h => h.elim (fun h2 => absurd h2 (by rw [UInt8.lt_iff_toNat_lt]; omega)) (fun h2 => this.1 h2.2), fun h => Or.inr ⟨rfl, this.2 h⟩⟩
theorem less_none : ∀ (a b : List UInt8), (∀ j, gz a j = gz b j) → (a < b ↔ a.length < b.length) := by
  intro a
  induction a with
  | nil =>
    intro b _
    match b with
    | [] => exact ⟨fun h => absurd h (List.not_lt_nil _), fun h => absurd h (Nat.lt_irrefl _)⟩
    | y :: b => exact ⟨fun _ => Nat.zero_lt_succ _, fun _ => List.nil_lt_cons _ _⟩
  | cons x a ih =>
    intro b hp
    match b with
    | [] => exact ⟨fun h => absurd h (List.not_lt_nil _), fun h => absurd h (Nat.not_lt_zero _)⟩
    | y :: b =>
      have hxy : x = y := hp 0
      subst hxy
      rw [List.cons_lt_cons_iff]
      have := ih b (fun j => hp (j + 1))
      refine ⟨fun h => h.elim (fun h2 => absurd h2 (by rw [UInt8.lt_iff_toNat_lt]; omega)) (fun h2 => Nat.succ_lt_succ (this.1 h2.2)), fun h => Or.inr ⟨rfl, this.2 (Nat.lt_of_succ_lt_succ h)⟩⟩
def ltB (a b : List UInt8) : Bool := decide (a < b)
theorem lt_irrefl (a : List UInt8) : ¬ a < a := List.lt_irrefl a
theorem ltB_irrefl (a : List UInt8) : ltB a a = false := decide_eq_false (List.lt_irrefl a)
theorem ltB_trans (a b c : List UInt8) (h : ltB a b = true) (h2 : ltB b c = true) : ltB a c = true := decide_eq_true (List.lt_trans (of_decide_eq_true h) (of_decide_eq_true h2))
theorem ltB_tri (a b : List UInt8) (h : ltB a b = false) (h2 : ltB b a = false) : a = b := List.le_antisymm (show a ≤ b from of_decide_eq_false h2) (show b ≤ a from of_decide_eq_false h)
theorem ltB_asymm (a b : List UInt8) (h : ltB a b = true) : ltB b a = false := decide_eq_false (List.lt_asymm (of_decide_eq_true h))
theorem ltB_ntrans (a b c : List UInt8) (h : ltB a b = false) (h2 : ltB b c = false) : ltB a c = false := by
  cases h3 : ltB a c with
  | false => rfl
  | true =>
    cases h4 : ltB b a with
    | true => rw [ltB_trans b a c h4 h3] at h2; cases h2
    | false => rw [ltB_tri a b h h4] at h3; rw [h3] at h2; cases h2
def up (x y : List UInt8) : Prop := ltB y x = false
theorem sorted_eq : ∀ l m : List (List UInt8), l.Perm m → l.Pairwise up → m.Pairwise up → l = m := by
  intro l
  induction l with
  | nil => intro m hp _ _; exact (List.Perm.nil_eq hp)
  | cons x l ih =>
    intro m hp h1 h2
    match m with
    | [] => exact absurd hp.length_eq (by simp)
    | y :: m =>
      rw [List.pairwise_cons] at h1 h2
      have hxy : x = y := by
        have hx : x ∈ y :: m := hp.subset List.mem_cons_self
        have hy : y ∈ x :: l := hp.symm.subset List.mem_cons_self
        rcases List.mem_cons.1 hx with e | hx
        · exact e
        · rcases List.mem_cons.1 hy with e | hy
          · exact e.symm
          · exact ltB_tri x y (h2.1 x hx) (h1.1 y hy)
      subst hxy
      rw [ih m (List.Perm.cons_inv hp) h1.2 h2.2]
def srt (l : List (List UInt8)) : List (List UInt8) := l.mergeSort fun x y => decide (x ≤ y)
theorem le_iff (x y : List UInt8) : x ≤ y ↔ ltB y x = false := by
  unfold ltB; rw [decide_eq_false_iff_not]; exact Iff.rfl
theorem srt_perm (l : List (List UInt8)) : (srt l).Perm l := List.mergeSort_perm _ _
theorem srt_up (l : List (List UInt8)) : (srt l).Pairwise up := by
  have h := List.pairwise_mergeSort (le := fun x y : List UInt8 => decide (x ≤ y)) (by
    intro a b c h1 h2
    have h1' := (le_iff _ _).1 (of_decide_eq_true h1)
    have h2' := (le_iff _ _).1 (of_decide_eq_true h2)
    exact decide_eq_true ((le_iff _ _).2 (ltB_ntrans c b a h2' h1'))) (by
    intro a b
    rw [Bool.or_eq_true]
    cases h : ltB b a with
    | false => exact Or.inl (decide_eq_true ((le_iff _ _).2 h))
    | true => exact Or.inr (decide_eq_true ((le_iff _ _).2 (ltB_asymm _ _ h)))) l
  exact h.imp (fun {x y} h => (le_iff _ _).1 (of_decide_eq_true h))
theorem srt_of (l m : List (List UInt8)) (hp : m.Perm l) (hm : m.Pairwise up) : m = srt l := sorted_eq _ _ (hp.trans (srt_perm l).symm) hm (srt_up l)
theorem srt_srt (l : List (List UInt8)) : srt (srt l) = srt l := (srt_of (srt l) (srt l) (List.Perm.refl _) (srt_up l)).symm
end Setof
end Go.Proofs.Ytcjdhnggddljbaa
