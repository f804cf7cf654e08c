/-
  No cell of these rows narrows 'for every input' (looked for: loops, veiled, ifaces, maps, wideKeys, modest, calm, conditions, laid).
  DERIVED. THE GIVEN ROWS OF THIS SEAT. 3 by the template 'for every input the law returns true; each argument reads behind the call as it read before'; 0 by the template 'total and deterministic' (their statements: YtoledeeefcbgnaaTotals.lean).
  GIVEN WITH THE SEED: the statements are not yours to turn. If you find one false, say at which input.
  Laid BY PROGRAM, IN A SANDBOX (cutbox-rows.mjs): the forced cells as the released guide's own fill.sh prints them over the translation ce9defbafc6c0aa7… (all of the seat's roots in one cut). By AI agents, Wed Nov 11 2026. No macro, syntax, notation, axiom, sorry.
-/
import Derived.Test.YtoledeeefcbgnaaChecked
import GoSem.Claim
import GoSem.ClaimJoined
import GoSem.ClaimMapViews
import Derived.JoinedTies
import Derived.KernelRfl
namespace Go.Proofs.Ytoledeeefcbgnaa
/- THE CELL 'sum', in the pinned program and in every row, IS THE sha256 OF THE DUMP (.gsa) THAT YtoledeeefcbgnaaProg.lean LOADS. Nothing in Lean hashes anything: it is a label: what it is worth is what the hold of that sum in a sandbox is worth. -/
noncomputable def Try.pinned : Pinned := { name := "ytoledeeefcbgnaa", sum := "ce9defbafc6c0aa72d7389dc37ef732fccdf7215431da3a02927f20d752d6448", checked := Try.checked }
namespace Rows
def none {H : Type} : Left H := { results := [], args := [] }

/-- 'clavigerlaw33.TemplTells': WHATEVER THE INPUT: true; the input reads as it did. -/
def templTellsSpec : ChangeSpec := { name := "templTells", fn := fun _ => fun
  | [d1, d2] => { results := [.lit (.bool true)], args := [d1, d2] }
  | _ => none }
def templTellsRow : OpenClaim := { program := "ytoledeeefcbgnaa", sum := "ce9defbafc6c0aa72d7389dc37ef732fccdf7215431da3a02927f20d752d6448", func := "claviger/clavigerlaw33.TemplTells", spec := "templTells", apart := false }
def TemplTellsSaid : Prop := templTellsRow.holds Try.pinned (OpenSpec.ofChange templTellsSpec)

/-- ITS FALSE NEIGHBOUR: 'it returns false'. Refute it at one input. -/
def templTellsWrong : ChangeSpec := { name := "templTells", fn := fun _ => fun
  | [d1, d2] => { results := [.lit (.bool false)], args := [d1, d2] }
  | _ => none }
def TemplTellsWrongFalsely : Prop := templTellsRow.holds Try.pinned (OpenSpec.ofChange templTellsWrong)

/-- 'clavigerlaw33.TemplOptions': WHATEVER THE INPUT: true; the input reads as it did. -/
def templOptionsSpec : ChangeSpec := { name := "templOptions", fn := fun _ => fun
  | [d1, d2] => { results := [.lit (.bool true)], args := [d1, d2] }
  | _ => none }
def templOptionsRow : OpenClaim := { program := "ytoledeeefcbgnaa", sum := "ce9defbafc6c0aa72d7389dc37ef732fccdf7215431da3a02927f20d752d6448", func := "claviger/clavigerlaw33.TemplOptions", spec := "templOptions", apart := false }
def TemplOptionsSaid : Prop := templOptionsRow.holds Try.pinned (OpenSpec.ofChange templOptionsSpec)

/-- ITS FALSE NEIGHBOUR: 'it returns false'. Refute it at one input. -/
def templOptionsWrong : ChangeSpec := { name := "templOptions", fn := fun _ => fun
  | [d1, d2] => { results := [.lit (.bool false)], args := [d1, d2] }
  | _ => none }
def TemplOptionsWrongFalsely : Prop := templOptionsRow.holds Try.pinned (OpenSpec.ofChange templOptionsWrong)

/-- 'clavigerlaw33.TemplBack': WHATEVER THE INPUT: true; the input reads as it did. -/
def templBackSpec : ChangeSpec := { name := "templBack", fn := fun _ => fun
  | [d1, d2] => { results := [.lit (.bool true)], args := [d1, d2] }
  | _ => none }
def templBackRow : OpenClaim := { program := "ytoledeeefcbgnaa", sum := "ce9defbafc6c0aa72d7389dc37ef732fccdf7215431da3a02927f20d752d6448", func := "claviger/clavigerlaw33.TemplBack", spec := "templBack", apart := false }
def TemplBackSaid : Prop := templBackRow.holds Try.pinned (OpenSpec.ofChange templBackSpec)

/-- ITS FALSE NEIGHBOUR: 'it returns false'. Refute it at one input. -/
def templBackWrong : ChangeSpec := { name := "templBack", fn := fun _ => fun
  | [d1, d2] => { results := [.lit (.bool false)], args := [d1, d2] }
  | _ => none }
def TemplBackWrongFalsely : Prop := templBackRow.holds Try.pinned (OpenSpec.ofChange templBackWrong)

/- THE SECOND FORM. 'bulk': how many values and letters a reading holds, each counted each time it is reached (what is shared counts as often as it is met; a slice's spare places count too). A statement '..UptoSaid' is the law's where the arguments, and the package variables that the reading takes, are together of bulk at most 1048576: NARROWER than '..Said'. Prove '..Said' where nothing that the law and all that it calls make is longer than what came in: it says more and counts as full. Else prove '..UptoSaid'. A law counts once. -/
mutual
def uptoBulk {H : Type} : DataW H → Nat
  | .lit (.string bytes) => bytes.length + 1
  | .lit _ => 1
  | .nil => 1
  | .ptr d => uptoBulk d + 1
  | .slice elems spare => uptoBulkAll elems + uptoBulkAll spare + 1
  | .agg parts => uptoBulkAll parts + 1
  | .iface _ d => uptoBulk d + 1
  | .map entries => uptoBulkEntries entries + 1
  | .held _ => 1
def uptoBulkAll {H : Type} : List (DataW H) → Nat
  | [] => 0
  | d :: r => uptoBulk d + uptoBulkAll r
def uptoBulkEntries {H : Type} : List (Lit × DataW H) → Nat
  | [] => 0
  | x :: r => uptoBulkEntry x + uptoBulkEntries r
def uptoBulkEntry {H : Type} : Lit × DataW H → Nat
  | (.string bytes, d) => bytes.length + uptoBulk d + 1
  | (_, d) => uptoBulk d + 1
 end
def uptoSmall : (H : Type) → List (DataW H) → Bool := fun _ ds => decide (uptoBulkAll ds ≤ 1048576)
def OpenSpec.upto (s : _root_.Go.ChangeSpec) : _root_.Go.OpenSpec := { _root_.Go.OpenSpec.ofChange s with cond := some uptoSmall }

/-- 'clavigerlaw33.TemplTells', WHERE WHAT IT READS IS OF BULK AT MOST 1048576: true; the input reads as it did. -/
def templTellsUptoRow : OpenClaim := { program := "ytoledeeefcbgnaa", sum := "ce9defbafc6c0aa72d7389dc37ef732fccdf7215431da3a02927f20d752d6448", func := "claviger/clavigerlaw33.TemplTells", spec := "templTells", apart := false, narrowed := true }
def TemplTellsUptoSaid : Prop := templTellsUptoRow.holds Try.pinned (OpenSpec.upto templTellsSpec)

/-- 'clavigerlaw33.TemplOptions', WHERE WHAT IT READS IS OF BULK AT MOST 1048576: true; the input reads as it did. -/
def templOptionsUptoRow : OpenClaim := { program := "ytoledeeefcbgnaa", sum := "ce9defbafc6c0aa72d7389dc37ef732fccdf7215431da3a02927f20d752d6448", func := "claviger/clavigerlaw33.TemplOptions", spec := "templOptions", apart := false, narrowed := true }
def TemplOptionsUptoSaid : Prop := templOptionsUptoRow.holds Try.pinned (OpenSpec.upto templOptionsSpec)

/-- 'clavigerlaw33.TemplBack', WHERE WHAT IT READS IS OF BULK AT MOST 1048576: true; the input reads as it did. -/
def templBackUptoRow : OpenClaim := { program := "ytoledeeefcbgnaa", sum := "ce9defbafc6c0aa72d7389dc37ef732fccdf7215431da3a02927f20d752d6448", func := "claviger/clavigerlaw33.TemplBack", spec := "templBack", apart := false, narrowed := true }
def TemplBackUptoSaid : Prop := templBackUptoRow.holds Try.pinned (OpenSpec.upto templBackSpec)

end Rows
end Go.Proofs.Ytoledeeefcbgnaa
