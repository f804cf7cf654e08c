/- Joined texts. -/
-- PACK: YtihpndfjcgodiaaDigM
import Derived.Test.YtihpndfjcgodiaaTw3
import Derived.Test.YtihpndfjcgodiaaTw1

/- Digits in plain Lean. -/
namespace Go.Proofs.Ytihpndfjcgodiaa
open Go.RowKit
namespace Dig

/-- the value of a digit, or -1 -/
def val (c : Nat) : Int := if 48 ≤ c ∧ c ≤ 57 then (c : Int) - 48 else if 65 ≤ c ∧ c ≤ 70 then (c : Int) - 55 else -1

/-- digit number d -/
def sign (d : Nat) : UInt8 := ([48, 49, 50, 51, 52, 53, 54, 55, 56, 57, 65, 66, 67, 68, 69, 70] : List UInt8).getD d 0
theorem sign_at (d : Nat) (h : d < (⟨#[48, 49, 50, 51, 52, 53, 54, 55, 56, 57, 65, 66, 67, 68, 69, 70]⟩ : ByteArray).size) : (⟨#[48, 49, 50, 51, 52, 53, 54, 55, 56, 57, 65, 66, 67, 68, 69, 70]⟩ : ByteArray)[d] = sign d := by
  have h' : d < 16 := h
  rcases (show d = 0 ∨ d = 1 ∨ d = 2 ∨ d = 3 ∨ d = 4 ∨ d = 5 ∨ d = 6 ∨ d = 7 ∨ d = 8 ∨ d = 9 ∨ d = 10 ∨ d = 11 ∨ d = 12 ∨ d = 13 ∨ d = 14 ∨ d = 15 by omega) with rfl | rfl | rfl | rfl | rfl | rfl | rfl | rfl | rfl | rfl | rfl | rfl | rfl | rfl | rfl | rfl <;> rfl
theorem getD_at (s : ByteArray) (k : Nat) (h : k < s.size) : s.data.toList.getD k 0 = s[k] := by
  simp [List.getD, List.getElem?_eq_getElem (show k < s.data.toList.length from h)]; rfl
/-- the digits of the first k bytes -/
def hexL (l : List UInt8) : List UInt8 := l.flatMap fun c => [sign (c.toNat / 16), sign (c.toNat % 16)]
def hexC (l : List UInt8) (j : Nat) : Value := .int .u8 (if j % 2 = 0 then ((sign ((l.getD (j / 2) 0).toNat / 16)).toNat : Int) else ((sign ((l.getD (j / 2) 0).toNat % 16)).toNat : Int))

theorem hexL_len (l : List UInt8) : (hexL l).length = 2 * l.length := by
  induction l with
  | nil => rfl
  | cons c l ih =>
    show (sign (c.toNat / 16) :: sign (c.toNat % 16) :: hexL l).length = _
    simp only [List.length_cons, ih]; omega
theorem hexL_get (l : List UInt8) (i : Nat) (hi : i < 2 * l.length) : (hexL l)[i]? = some (if i % 2 = 0 then sign ((l.getD (i / 2) 0).toNat / 16) else sign ((l.getD (i / 2) 0).toNat % 16)) := by
  induction l generalizing i with
  | nil => simp at hi
  | cons c l ih =>
    have he : hexL (c :: l) = sign (c.toNat / 16) :: sign (c.toNat % 16) :: hexL l := rfl
    rw [he]
    match i with
    | 0 => rfl
    | 1 => rfl
    | i + 2 =>
      show (hexL l)[i]? = _
      rw [ih i (by simp at hi; omega), show (i + 2) % 2 = i % 2 from by omega, show (i + 2) / 2 = i / 2 + 1 from by omega]
      rfl
theorem hexL_at (l : List UInt8) (i : Nat) (hi : i < 2 * l.length) : some (hexC l i) = some (Value.int .u8 (((hexL l).map fun c => (c.toNat : Int)).getD i 0)) := by
  have h := hexL_get l i hi
  unfold hexC
  have hm : ((hexL l).map fun c => (c.toNat : Int)).getD i 0 = ((if i % 2 = 0 then sign ((l.getD (i / 2) 0).toNat / 16) else sign ((l.getD (i / 2) 0).toNat % 16)).toNat : Int) := by
    unfold List.getD; rw [List.getElem?_map]; unfold List.getD at h; rw [h]; rfl
  rw [hm]
  split <;> rfl

theorem val_lt (c : Nat) : -1 ≤ val c ∧ val c ≤ 15 := by unfold val; split <;> (try split) <;> omega
def hi (l : List UInt8) (j : Nat) : Int := val (l.getD (2 * j) 0).toNat
def lo (l : List UInt8) (j : Nat) : Int := val (l.getD (2 * j + 1) 0).toNat
/-- are the first k pairs digits -/
def okN (l : List UInt8) (k : Nat) : Bool := (List.range k).all fun j => decide (0 ≤ hi l j) && decide (0 ≤ lo l j)
def pairV (l : List UInt8) (j : Nat) : Int := 16 * hi l j + lo l j
def unB (l : List UInt8) : Bool := decide (l.length % 2 = 0) && okN l (l.length / 2)
def unS (l : List UInt8) : ByteArray := if unB l = true then strOfNums ((List.range (l.length / 2)).map (pairV l)) else ⟨#[]⟩
theorem okN_succ (l : List UInt8) (k : Nat) : okN l (k + 1) = (okN l k && (decide (0 ≤ hi l k) && decide (0 ≤ lo l k))) := by
  unfold okN; rw [List.range_succ, List.all_append]; simp
theorem okN_le (l : List UInt8) (k m : Nat) (h : okN l m = true) (hk : k ≤ m) : okN l k = true := by
  unfold okN at *
  rw [List.all_eq_true] at *
  exact fun x hx => h x (List.mem_range.2 (by have := List.mem_range.1 hx; omega))

theorem val_sign (c k : Nat) (hk : k < 16) (h : (sign k).toNat = c) : val c = (k : Int) := by
  subst h
  rcases (show k = 0 ∨ k = 1 ∨ k = 2 ∨ k = 3 ∨ k = 4 ∨ k = 5 ∨ k = 6 ∨ k = 7 ∨ k = 8 ∨ k = 9 ∨ k = 10 ∨ k = 11 ∨ k = 12 ∨ k = 13 ∨ k = 14 ∨ k = 15 by omega) with rfl | rfl | rfl | rfl | rfl | rfl | rfl | rfl | rfl | rfl | rfl | rfl | rfl | rfl | rfl | rfl <;> decide +kernel
theorem no_all : (List.range 256).all (fun c => (List.range 16).any (fun k => (sign k).toNat == c) || val c == -1) = true := by decide +kernel
theorem val_none (c : Nat) (hc : c < 256) (h : ∀ k, k < 16 → (sign k).toNat ≠ c) : val c = -1 := by
  have h1 := List.all_eq_true.1 no_all c (List.mem_range.2 hc)
  rw [Bool.or_eq_true] at h1
  rcases h1 with h1 | h1
  · obtain ⟨k, hk, he⟩ := List.any_eq_true.1 h1
    exact absurd (beq_iff_eq.1 he) (h k (List.mem_range.1 hk))
  · exact beq_iff_eq.1 h1
end Dig
end Go.Proofs.Ytihpndfjcgodiaa
