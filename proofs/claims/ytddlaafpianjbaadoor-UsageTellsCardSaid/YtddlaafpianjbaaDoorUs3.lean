/- Joined texts. -/
-- PACK: YtddlaafpianjbaaDoorBase YtddlaafpianjbaaDoorDigM YtddlaafpianjbaaDoorPlainH
import Derived.Test.YtddlaafpianjbaaDoorRows
import Derived.WalkKit
import Derived.WalkSpells
import Derived.WalkLawsBesides
import Derived.Lib.Hide
import Derived.Outline
import Derived.Test.YtddlaafpianjbaaDoorUs2

/- Words that every text of this seat uses: a call that only reckons, and the bounds of integers. -/
namespace Go.Proofs.YtddlaafpianjbaaDoor
open Go.RowKit

/-- a call that only reckons, and returns v -/
def Ret (f : Nat) (args : Array Value) (v : Value) : Prop := ∀ w, Calls Tryd.prog f args w fun e w' => e = .returned v ∧ w = w'
set_option maxRecDepth 100000 in
theorem Ret.calls {f : Nat} {args : Array Value} {v : Value} (h : Ret f args v) {w : World} {R : Ending → World → Prop} (k : R (.returned v) w) : Calls Tryd.prog f args w R :=
  (h w).mono fun _ _ ⟨he, hw⟩ => by subst he; subst hw; exact k
/-- a call that may make memory, and turns none that there is, and returns v -/
def Mak (f : Nat) (args : Array Value) (v : Value) : Prop := ∀ w, Calls Tryd.prog f args w fun e w' => e = .returned v ∧ Below w.heap.size w w'
theorem Ret.mak {f : Nat} {args : Array Value} {v : Value} (h : Ret f args v) : Mak f args v :=
  fun w => (h w).mono fun _ _ ⟨he, hw⟩ => by subst he; subst hw; exact ⟨rfl, Below.refl _ _⟩

/-- what was there when the call began is as it was -/
def Since (W0 w : World) : Prop := Below W0.heap.size W0 w
theorem Since.refl (w : World) : Since w w := Below.refl _ _
theorem Since.step {W0 w w' : World} (h : Since W0 w) (hb : Below w.heap.size w w') : Since W0 w' := Below.trans h (Below.mono hb (Below.size h))
theorem Since.alloc {W0 w : World} (h : Since W0 w) (o : Obj) : Since W0 (w.alloc o) := Below.alloc h (Below.size h) o
theorem Since.drew {W0 w : World} (h : Since W0 w) : Since W0 w.drew := Below.drew h
theorem Since.below {W0 w : World} (h : Since W0 w) : Below W0.heap.size W0 w := h
set_option maxRecDepth 100000 in
theorem Mak.calls {f : Nat} {args : Array Value} {v : Value} (h : Mak f args v) {W0 w : World} (hs : Since W0 w) {R : Ending → World → Prop} (k : ∀ w', Since W0 w' → R (.returned v) w') : Calls Tryd.prog f args w R :=
  (h w).mono fun _ _ ⟨he, hb⟩ => by subst he; exact k _ (hs.step hb)
set_option maxRecDepth 100000 in
theorem Mak.calls0 {f : Nat} {args : Array Value} {v : Value} (h : Mak f args v) {w : World} {R : Ending → World → Prop} (k : ∀ w', Below w.heap.size w w' → R (.returned v) w') : Calls Tryd.prog f args w R :=
  (h w).mono fun _ _ ⟨he, hb⟩ => by subst he; exact k _ hb

theorem u8_of_wf {n : Int} (h : (Lit.int .u8 n).wf = true) : 0 ≤ n ∧ n ≤ 255 := by
  simpa [Lit.wf, IntKind.min, IntKind.max, IntKind.signed, IntKind.bits] using h
theorem i64_of_wf {n : Int} (h : (Lit.int .i64 n).wf = true) : -9223372036854775808 ≤ n ∧ n ≤ 9223372036854775807 := by
  simpa [Lit.wf, IntKind.min, IntKind.max, IntKind.signed, IntKind.bits] using h
theorem u64_of_wf {n : Int} (h : (Lit.int .u64 n).wf = true) : 0 ≤ n ∧ n ≤ 18446744073709551615 := by
  simpa [Lit.wf, IntKind.min, IntKind.max, IntKind.signed, IntKind.bits] using h
end Go.Proofs.YtddlaafpianjbaaDoor

/- Digits in plain Lean. -/
namespace Go.Proofs.YtddlaafpianjbaaDoor
open Go.RowKit
namespace Dig

/-- the value of a digit, or -1 -/
def val (c : Nat) : Int := if 48 ≤ c ∧ c ≤ 57 then (c : Int) - 48 else if 65 ≤ c ∧ c ≤ 70 then (c : Int) - 55 else -1

/-- digit number d -/
def sign (d : Nat) : UInt8 := ([48, 49, 50, 51, 52, 53, 54, 55, 56, 57, 65, 66, 67, 68, 69, 70] : List UInt8).getD d 0
theorem sign_at (d : Nat) (h : d < (⟨#[48, 49, 50, 51, 52, 53, 54, 55, 56, 57, 65, 66, 67, 68, 69, 70]⟩ : ByteArray).size) : (⟨#[48, 49, 50, 51, 52, 53, 54, 55, 56, 57, 65, 66, 67, 68, 69, 70]⟩ : ByteArray)[d] = sign d := by
  have h' : d < 16 := h
  rcases (show d = 0 ∨ d = 1 ∨ d = 2 ∨ d = 3 ∨ d = 4 ∨ d = 5 ∨ d = 6 ∨ d = 7 ∨ d = 8 ∨ d = 9 ∨ d = 10 ∨ d = 11 ∨ d = 12 ∨ d = 13 ∨ d = 14 ∨ d = 15 by omega) with rfl | rfl | rfl | rfl | rfl | rfl | rfl | rfl | rfl | rfl | rfl | rfl | rfl | rfl | rfl | rfl <;> rfl
theorem getD_at (s : ByteArray) (k : Nat) (h : k < s.size) : s.data.toList.getD k 0 = s[k] := by
  simp [List.getD, List.getElem?_eq_getElem (show k < s.data.toList.length from h)]; rfl
/-- the digits of the first k bytes -/
def hexL (l : List UInt8) : List UInt8 := l.flatMap fun c => [sign (c.toNat / 16), sign (c.toNat % 16)]
def hexC (l : List UInt8) (j : Nat) : Value := .int .u8 (if j % 2 = 0 then ((sign ((l.getD (j / 2) 0).toNat / 16)).toNat : Int) else ((sign ((l.getD (j / 2) 0).toNat % 16)).toNat : Int))

theorem hexL_len (l : List UInt8) : (hexL l).length = 2 * l.length := by
  induction l with
  | nil => rfl
  | cons c l ih =>
    show (sign (c.toNat / 16) :: sign (c.toNat % 16) :: hexL l).length = _
    simp only [List.length_cons, ih]; omega
theorem hexL_get (l : List UInt8) (i : Nat) (hi : i < 2 * l.length) : (hexL l)[i]? = some (if i % 2 = 0 then sign ((l.getD (i / 2) 0).toNat / 16) else sign ((l.getD (i / 2) 0).toNat % 16)) := by
  induction l generalizing i with
  | nil => simp at hi
  | cons c l ih =>
    have he : hexL (c :: l) = sign (c.toNat / 16) :: sign (c.toNat % 16) :: hexL l := rfl
    rw [he]
    match i with
    | 0 => rfl
    | 1 => rfl
    | i + 2 =>
      show (hexL l)[i]? = _
      rw [ih i (by simp at hi; omega), show (i + 2) % 2 = i % 2 from by omega, show (i + 2) / 2 = i / 2 + 1 from by omega]
      rfl
theorem hexL_at (l : List UInt8) (i : Nat) (hi : i < 2 * l.length) : some (hexC l i) = some (Value.int .u8 (((hexL l).map fun c => (c.toNat : Int)).getD i 0)) := by
  have h := hexL_get l i hi
  unfold hexC
  have hm : ((hexL l).map fun c => (c.toNat : Int)).getD i 0 = ((if i % 2 = 0 then sign ((l.getD (i / 2) 0).toNat / 16) else sign ((l.getD (i / 2) 0).toNat % 16)).toNat : Int) := by
    unfold List.getD; rw [List.getElem?_map]; unfold List.getD at h; rw [h]; rfl
  rw [hm]
  split <;> rfl

theorem val_lt (c : Nat) : -1 ≤ val c ∧ val c ≤ 15 := by unfold val; split <;> (try split) <;> omega
def hi (l : List UInt8) (j : Nat) : Int := val (l.getD (2 * j) 0).toNat
def lo (l : List UInt8) (j : Nat) : Int := val (l.getD (2 * j + 1) 0).toNat
/-- are the first k pairs digits -/
def okN (l : List UInt8) (k : Nat) : Bool := (List.range k).all fun j => decide (0 ≤ hi l j) && decide (0 ≤ lo l j)
def pairV (l : List UInt8) (j : Nat) : Int := 16 * hi l j + lo l j
def unB (l : List UInt8) : Bool := decide (l.length % 2 = 0) && okN l (l.length / 2)
def unS (l : List UInt8) : ByteArray := if unB l = true then strOfNums ((List.range (l.length / 2)).map (pairV l)) else ⟨#[]⟩
theorem okN_succ (l : List UInt8) (k : Nat) : okN l (k + 1) = (okN l k && (decide (0 ≤ hi l k) && decide (0 ≤ lo l k))) := by
  unfold okN; rw [List.range_succ, List.all_append]; simp
theorem okN_le (l : List UInt8) (k m : Nat) (h : okN l m = true) (hk : k ≤ m) : okN l k = true := by
  unfold okN at *
  rw [List.all_eq_true] at *
  exact fun x hx => h x (List.mem_range.2 (by have := List.mem_range.1 hx; omega))

theorem val_sign (c k : Nat) (hk : k < 16) (h : (sign k).toNat = c) : val c = (k : Int) := by
  subst h
  rcases (show k = 0 ∨ k = 1 ∨ k = 2 ∨ k = 3 ∨ k = 4 ∨ k = 5 ∨ k = 6 ∨ k = 7 ∨ k = 8 ∨ k = 9 ∨ k = 10 ∨ k = 11 ∨ k = 12 ∨ k = 13 ∨ k = 14 ∨ k = 15 by omega) with rfl | rfl | rfl | rfl | rfl | rfl | rfl | rfl | rfl | rfl | rfl | rfl | rfl | rfl | rfl | rfl <;> decide +kernel
theorem no_all : (List.range 256).all (fun c => (List.range 16).any (fun k => (sign k).toNat == c) || val c == -1) = true := by decide +kernel
theorem val_none (c : Nat) (hc : c < 256) (h : ∀ k, k < 16 → (sign k).toNat ≠ c) : val c = -1 := by
  have h1 := List.all_eq_true.1 no_all c (List.mem_range.2 hc)
  rw [Bool.or_eq_true] at h1
  rcases h1 with h1 | h1
  · obtain ⟨k, hk, he⟩ := List.any_eq_true.1 h1
    exact absurd (beq_iff_eq.1 he) (h k (List.mem_range.1 hk))
  · exact beq_iff_eq.1 h1
end Dig
end Go.Proofs.YtddlaafpianjbaaDoor

/- clavigerplain: Head. -/
namespace Go.Proofs.YtddlaafpianjbaaDoor
open Go.RowKit
namespace Plain
/-- are a header's fields short? -/
def headB (u m v e : ByteArray) : Bool := decide (u.size ≤ 20) && decide (m.size ≤ 20) && decide (v.size ≤ 20) && decide (e.size ≤ 20)
set_option maxRecDepth 100000 in
set_option maxHeartbeats 1000000 in
theorem head_core (u m v e : ByteArray) (q1 q2 q3 q4 : Bool) (k1 : decide ((u.size : Int) ≤ 20) = q1) (k2 : decide ((m.size : Int) ≤ 20) = q2) (k3 : decide ((v.size : Int) ≤ 20) = q3) (k4 : decide ((e.size : Int) ≤ 20) = q4) : Mak 20 #[.agg #[.string u, .string m, .string v, .string e]] (.bool (q1 && q2 && q3 && q4)) := by
  intro w
  have HS := Lib.hid (Since.alloc (Since.refl w) (.cells #[.string u, .string m, .string v, .string e] 24))
  cases q1
  · go_enter Tryd.func20, Tryd.ntmps20
    go_wp2_with fail
    go_ret
    exact ⟨rfl, HS.out⟩
  · cases q2
    · go_enter Tryd.func20, Tryd.ntmps20
      go_wp2_with fail
      go_ret
      exact ⟨rfl, HS.out⟩
    · cases q3
      · go_enter Tryd.func20, Tryd.ntmps20
        go_wp2_with fail
        go_ret
        exact ⟨rfl, HS.out⟩
      · go_enter Tryd.func20, Tryd.ntmps20
        go_wp2_with fail
        go_ret
        exact ⟨rfl, HS.out⟩
theorem head_mak (u m v e : ByteArray) (q : Bool) (hq : q = headB u m v e) : Mak 20 #[.agg #[.string u, .string m, .string v, .string e]] (.bool q) := by
  have h := head_core u m v e _ _ _ _ rfl rfl rfl rfl
  have e9 : ∀ s : ByteArray, decide ((s.size : Int) ≤ 20) = decide (s.size ≤ 20) := fun s => by rw [Bool.eq_iff_iff, decide_eq_true_iff, decide_eq_true_iff]; omega
  rw [e9, e9, e9, e9] at h
  rw [hq]
  exact h
end Plain
end Go.Proofs.YtddlaafpianjbaaDoor
