/- Joined texts. -/
-- PACK: YtihpndfjcgodiaaBase
import Derived.Test.YtihpndfjcgodiaaRows
import Derived.WalkKit
import Derived.WalkSpells
import Derived.WalkLawsBesides
import Derived.Lib.Hide
import Derived.Outline

/- Words that every text of this seat uses: a call that only reckons, and the bounds of integers. -/
namespace Go.Proofs.Ytihpndfjcgodiaa
open Go.RowKit

/-- a call that only reckons, and returns v -/
def Ret (f : Nat) (args : Array Value) (v : Value) : Prop := ∀ w, Calls Try.prog f args w fun e w' => e = .returned v ∧ w = w'
set_option maxRecDepth 100000 in
theorem Ret.calls {f : Nat} {args : Array Value} {v : Value} (h : Ret f args v) {w : World} {R : Ending → World → Prop} (k : R (.returned v) w) : Calls Try.prog f args w R :=
  (h w).mono fun _ _ ⟨he, hw⟩ => by subst he; subst hw; exact k
/-- a call that may make memory, and turns none that there is, and returns v -/
def Mak (f : Nat) (args : Array Value) (v : Value) : Prop := ∀ w, Calls Try.prog f args w fun e w' => e = .returned v ∧ Below w.heap.size w w'
theorem Ret.mak {f : Nat} {args : Array Value} {v : Value} (h : Ret f args v) : Mak f args v :=
  fun w => (h w).mono fun _ _ ⟨he, hw⟩ => by subst he; subst hw; exact ⟨rfl, Below.refl _ _⟩

/-- what was there when the call began is as it was -/
def Since (W0 w : World) : Prop := Below W0.heap.size W0 w
theorem Since.refl (w : World) : Since w w := Below.refl _ _
theorem Since.step {W0 w w' : World} (h : Since W0 w) (hb : Below w.heap.size w w') : Since W0 w' := Below.trans h (Below.mono hb (Below.size h))
theorem Since.alloc {W0 w : World} (h : Since W0 w) (o : Obj) : Since W0 (w.alloc o) := Below.alloc h (Below.size h) o
theorem Since.drew {W0 w : World} (h : Since W0 w) : Since W0 w.drew := Below.drew h
theorem Since.below {W0 w : World} (h : Since W0 w) : Below W0.heap.size W0 w := h
set_option maxRecDepth 100000 in
theorem Mak.calls {f : Nat} {args : Array Value} {v : Value} (h : Mak f args v) {W0 w : World} (hs : Since W0 w) {R : Ending → World → Prop} (k : ∀ w', Since W0 w' → R (.returned v) w') : Calls Try.prog f args w R :=
  (h w).mono fun _ _ ⟨he, hb⟩ => by subst he; exact k _ (hs.step hb)
set_option maxRecDepth 100000 in
theorem Mak.calls0 {f : Nat} {args : Array Value} {v : Value} (h : Mak f args v) {w : World} {R : Ending → World → Prop} (k : ∀ w', Below w.heap.size w w' → R (.returned v) w') : Calls Try.prog f args w R :=
  (h w).mono fun _ _ ⟨he, hb⟩ => by subst he; exact k _ hb

theorem u8_of_wf {n : Int} (h : (Lit.int .u8 n).wf = true) : 0 ≤ n ∧ n ≤ 255 := by
  simpa [Lit.wf, IntKind.min, IntKind.max, IntKind.signed, IntKind.bits] using h
theorem i64_of_wf {n : Int} (h : (Lit.int .i64 n).wf = true) : -9223372036854775808 ≤ n ∧ n ≤ 9223372036854775807 := by
  simpa [Lit.wf, IntKind.min, IntKind.max, IntKind.signed, IntKind.bits] using h
theorem u64_of_wf {n : Int} (h : (Lit.int .u64 n).wf = true) : 0 ≤ n ∧ n ≤ 18446744073709551615 := by
  simpa [Lit.wf, IntKind.min, IntKind.max, IntKind.signed, IntKind.bits] using h
end Go.Proofs.Ytihpndfjcgodiaa
