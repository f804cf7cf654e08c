/- Joined texts. -/
-- PACK: YtihpndfjcgodiaaHeadM
import Derived.Test.YtihpndfjcgodiaaTw3
import Derived.Test.YtihpndfjcgodiaaTw1
import Derived.Scope
import Derived.WalkMore

/- Heads: plain mathematics, and a law for a scope with several labels. -/
namespace Go
/-- by a goto to label l: J l -/
def Exit.jumps (J : Nat → Act → World → Prop) (Q : Exit → Act → World → Prop) : Exit → Act → World → Prop
  | .goto l, a, w => J l a w
  | e, a, w => Q e a w
section
variable {P : Program} {a : Act} {w : World} {Q : Exit → Act → World → Prop}
/-- what stands at label l is walked, with n jumps more at most -/
def LabelWp (P : Program) (c : Code) (Q : Exit → Act → World → Prop) : Nat → Nat → Act → World → Prop
  | 0, _, _, _ => False
  | n + 1, l, a, w => ∃ rest, findLabel c l = some rest ∧ rest.wp P (Exit.jumps (LabelWp P c Q n) Q) a w

theorem wp_scope_some {c : Code} (n : Nat) (first : c.wp P (Exit.jumps (LabelWp P c Q n) Q) a w) : (Code.scope c).wp P Q a w := by
  intro b k cs
  have hg : ∀ l rest, findLabel c l = some rest → gotoIn l (.inScope c :: k) = some (.code rest :: .inScope c :: k) := fun l rest hf => by simp [gotoIn, hf]
  have key : ∀ n l a w, LabelWp P c Q n l a w → ∃ rest, findLabel c l = some rest ∧ ∃ e a' w', Q e a' w' ∧ Arrives P (lone (b.at a (.code rest :: .inScope c :: k)) cs w) b k cs e a' w' := by
    intro n
    induction n with
    | zero => intro l a w h; exact h.elim
    | succ n ih =>
      intro l a w ⟨rest, hf, hw⟩
      refine ⟨rest, hf, ?_⟩
      obtain ⟨e, a₁, w₁, hq, harr⟩ := hw b (.inScope c :: k) cs
      cases e with
      | normal => exact ⟨.normal, a₁, w₁, hq, Steps.trans harr (.one step_inScope)⟩
      | exit id => exact ⟨.exit id, a₁, w₁, hq, fun k' hk => harr k' (by simp [exitTo, hk])⟩
      | goto l' =>
        obtain ⟨rest', hf', e₂, a₂, w₂, hq₂, harr₂⟩ := ih l' a₁ w₁ hq
        exact ⟨e₂, a₂, w₂, hq₂, .of_steps (harr _ (hg l' rest' hf')) harr₂⟩
      | ret => exact ⟨_, a₁, w₁, hq, harr⟩
      | panic ch => exact ⟨_, a₁, w₁, hq, harr⟩
      | outgrown => exact ⟨_, a₁, w₁, hq, harr⟩
  obtain ⟨e, a₁, w₁, hq, harr⟩ := first b (.inScope c :: k) cs
  cases e with
  | normal => exact ⟨.normal, a₁, w₁, hq, .head step_scope (Steps.trans harr (.one step_inScope))⟩
  | exit id => exact ⟨.exit id, a₁, w₁, hq, fun k' hk => .head step_scope (harr k' (by simp [exitTo, hk]))⟩
  | goto l' =>
    obtain ⟨rest', hf', e₂, a₂, w₂, hq₂, harr₂⟩ := key _ l' a₁ w₁ hq
    exact ⟨e₂, a₂, w₂, hq₂, .of_steps (.head step_scope (harr _ (hg l' rest' hf'))) harr₂⟩
  | ret => exact ⟨_, a₁, w₁, hq, .of_steps (.one step_scope) harr⟩
  | panic ch => exact ⟨_, a₁, w₁, hq, .of_steps (.one step_scope) harr⟩
  | outgrown => exact ⟨_, a₁, w₁, hq, .of_steps (.one step_scope) harr⟩

variable {J : Nat → Act → World → Prop}
@[go_sem] theorem Exit.jumps_normal : Exit.jumps J Q .normal a w = Q .normal a w := rfl
@[go_sem] theorem Exit.jumps_exit (id : Nat) : Exit.jumps J Q (.exit id) a w = Q (.exit id) a w := rfl
@[go_sem] theorem Exit.jumps_ret : Exit.jumps J Q .ret a w = Q .ret a w := rfl
@[go_sem] theorem Exit.jumps_panic (ch : List PanicEntry) : Exit.jumps J Q (.panic ch) a w = Q (.panic ch) a w := rfl
end
end Go
namespace Go.Proofs.Ytihpndfjcgodiaa
open Go.RowKit
namespace Head

def first (c t : Nat) (b : Bool) : Nat := 64 * c + (if b then 32 else 0) + t
def seg (t k : Nat) : List UInt8 := if 2 ^ (7 * k) ≤ t then [UInt8.ofNat (128 + t / 2 ^ (7 * k) % 128)] else []
/-- the bytes of a tag -/
def tagL (c t : Nat) (b : Bool) : List UInt8 :=
  if t < 31 then [UInt8.ofNat (first c t b)] else UInt8.ofNat (first c 31 b) :: (seg t 2 ++ seg t 1 ++ [UInt8.ofNat (t % 128)])
/-- the bytes of a length -/
def lenL (n : Nat) : List UInt8 := if n < 128 then [UInt8.ofNat n] else if n < 256 then [129, UInt8.ofNat n] else [130, UInt8.ofNat (n / 256), UInt8.ofNat (n % 256)]
/-- a tag's digits to the base 128: the number, and how many there are -/
def digR : List UInt8 → Option (Nat × Nat)
  | [] => none
  | d :: r => if d.toNat < 128 then some (d.toNat, 1) else match r with
    | [] => none
    | e :: q => if e.toNat < 128 then some (128 * (d.toNat - 128) + e.toNat, 2) else match q with
      | [] => none
      | f :: _ => if f.toNat < 128 then some (128 * (128 * (d.toNat - 128) + (e.toNat - 128)) + f.toNat, 3) else none
/-- a tag that is read: class, number, mark, how many bytes -/
def tagR : List UInt8 → Option (Nat × Nat × Bool × Nat)
  | [] => none
  | x :: l => if x.toNat % 32 < 31 then some (x.toNat / 64, x.toNat % 32, decide (x.toNat / 32 % 2 = 1), 1) else
    match digR l with
    | none => none
    | some (t, k) => if tagL (x.toNat / 64) t (decide (x.toNat / 32 % 2 = 1)) = (x :: l).take (k + 1) then some (x.toNat / 64, t, decide (x.toNat / 32 % 2 = 1), k + 1) else none
/-- a length that is read: the length, how many bytes, the error -/
def lenR : List UInt8 → Nat × Nat × Nat
  | [] => (0, 0, 5)
  | x :: l => if x.toNat = 128 then (0, 0, 5) else if x.toNat < 128 then (x.toNat, 1, 0) else if 130 < x.toNat then (0, 0, 4) else
    if x.toNat = 129 then match l with
      | [] => (0, 0, 5)
      | d :: _ => if 128 ≤ d.toNat then (d.toNat, 2, 0) else (0, 0, 5)
    else match l with
      | d :: e :: _ => if 256 ≤ 256 * d.toNat + e.toNat then (256 * d.toNat + e.toNat, 3, 0) else (0, 0, 5)
      | _ => (0, 0, 5)
structure Hd where
  c : Nat
  t : Nat
  b : Bool
  n : Nat
def none0 : Hd := ⟨0, 0, false, 0⟩
/-- the head with which the bytes begin, the number of its bytes, the error -/
def dec (l : List UInt8) : Hd × Nat × Nat := match tagR l with
  | none => (none0, 0, 5)
  | some (c, t, b, k) => match lenR (l.drop k) with
    | (n, s, e) => if e = 0 then (⟨c, t, b, n⟩, k + s, 0) else (none0, 0, e)
def okH (c t n : Int) : Prop := 0 ≤ c ∧ c ≤ 3 ∧ 0 ≤ t ∧ t ≤ 2097151 ∧ 0 ≤ n ∧ n ≤ 65535
def encL (c t : Nat) (b : Bool) (n : Nat) : List UInt8 := tagL c t b ++ lenL n
end Head
end Go.Proofs.Ytihpndfjcgodiaa
