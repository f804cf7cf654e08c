/-
  No cell of these rows narrows 'for every input' (looked for: loops, veiled, ifaces, maps, wideKeys, modest, calm, conditions, laid).
  DERIVED. THE GIVEN ROWS OF THIS SEAT. 6 by the template 'for every input the law returns true; each argument reads behind the call as it read before'; 0 by the template 'total and deterministic' (their statements: YtefoonegobcoaaaTotals.lean).
  GIVEN WITH THE SEED: the statements are not yours to turn. If you find one false, say at which input.
  Laid BY PROGRAM, IN A SANDBOX (cutbox-rows.mjs): the forced cells as the released guide's own fill.sh prints them over the translation 84db2ac42d3464b3… (all of the seat's roots in one cut). By AI agents, Wed Nov 11 2026. No macro, syntax, notation, axiom, sorry.
-/
import Derived.Test.YtefoonegobcoaaaChecked
import GoSem.Claim
import GoSem.ClaimJoined
import GoSem.ClaimMapViews
import Derived.JoinedTies
import Derived.KernelRfl
namespace Go.Proofs.Ytefoonegobcoaaa
/- THE CELL 'sum', in the pinned program and in every row, IS THE sha256 OF THE DUMP (.gsa) THAT YtefoonegobcoaaaProg.lean LOADS. Nothing in Lean hashes anything: it is a label: what it is worth is what the hold of that sum in a sandbox is worth. -/
noncomputable def Try.pinned : Pinned := { name := "ytefoonegobcoaaa", sum := "84db2ac42d3464b3ffcec1dc9fa00df7a4f8a01a64e713766b0e37dc86a09bd5", checked := Try.checked }
namespace Rows
def none {H : Type} : Left H := { results := [], args := [] }

/-- 'clavigerlaw13.WrapTells': WHATEVER THE INPUT: true; the input reads as it did. -/
def wrapTellsSpec : ChangeSpec := { name := "wrapTells", fn := fun _ => fun
  | [d1, d2, d3, d4] => { results := [.lit (.bool true)], args := [d1, d2, d3, d4] }
  | _ => none }
def wrapTellsRow : OpenClaim := { program := "ytefoonegobcoaaa", sum := "84db2ac42d3464b3ffcec1dc9fa00df7a4f8a01a64e713766b0e37dc86a09bd5", func := "claviger/clavigerlaw13.WrapTells", spec := "wrapTells", unfollowed := true, recurses := true, apart := false }
def WrapTellsSaid : Prop := wrapTellsRow.holds Try.pinned (OpenSpec.ofChange wrapTellsSpec)

/-- ITS FALSE NEIGHBOUR: 'it returns false'. Refute it at one input. -/
def wrapTellsWrong : ChangeSpec := { name := "wrapTells", fn := fun _ => fun
  | [d1, d2, d3, d4] => { results := [.lit (.bool false)], args := [d1, d2, d3, d4] }
  | _ => none }
def WrapTellsWrongFalsely : Prop := wrapTellsRow.holds Try.pinned (OpenSpec.ofChange wrapTellsWrong)

/-- 'clavigerlaw13.WrapBack': WHATEVER THE INPUT: true; the input reads as it did. -/
def wrapBackSpec : ChangeSpec := { name := "wrapBack", fn := fun _ => fun
  | [d1, d2, d3] => { results := [.lit (.bool true)], args := [d1, d2, d3] }
  | _ => none }
def wrapBackRow : OpenClaim := { program := "ytefoonegobcoaaa", sum := "84db2ac42d3464b3ffcec1dc9fa00df7a4f8a01a64e713766b0e37dc86a09bd5", func := "claviger/clavigerlaw13.WrapBack", spec := "wrapBack", unfollowed := true, recurses := true, apart := false }
def WrapBackSaid : Prop := wrapBackRow.holds Try.pinned (OpenSpec.ofChange wrapBackSpec)

/-- ITS FALSE NEIGHBOUR: 'it returns false'. Refute it at one input. -/
def wrapBackWrong : ChangeSpec := { name := "wrapBack", fn := fun _ => fun
  | [d1, d2, d3] => { results := [.lit (.bool false)], args := [d1, d2, d3] }
  | _ => none }
def WrapBackWrongFalsely : Prop := wrapBackRow.holds Try.pinned (OpenSpec.ofChange wrapBackWrong)

/-- 'clavigerlaw13.WrapOne': WHATEVER THE INPUT: true; the input reads as it did. -/
def wrapOneSpec : ChangeSpec := { name := "wrapOne", fn := fun _ => fun
  | [d1, d2] => { results := [.lit (.bool true)], args := [d1, d2] }
  | _ => none }
def wrapOneRow : OpenClaim := { program := "ytefoonegobcoaaa", sum := "84db2ac42d3464b3ffcec1dc9fa00df7a4f8a01a64e713766b0e37dc86a09bd5", func := "claviger/clavigerlaw13.WrapOne", spec := "wrapOne", unfollowed := true, recurses := true, apart := false }
def WrapOneSaid : Prop := wrapOneRow.holds Try.pinned (OpenSpec.ofChange wrapOneSpec)

/-- ITS FALSE NEIGHBOUR: 'it returns false'. Refute it at one input. -/
def wrapOneWrong : ChangeSpec := { name := "wrapOne", fn := fun _ => fun
  | [d1, d2] => { results := [.lit (.bool false)], args := [d1, d2] }
  | _ => none }
def WrapOneWrongFalsely : Prop := wrapOneRow.holds Try.pinned (OpenSpec.ofChange wrapOneWrong)

/-- 'clavigerlaw14.PadwrapTells': WHATEVER THE INPUT: true; the input reads as it did. -/
def padwrapTellsSpec : ChangeSpec := { name := "padwrapTells", fn := fun _ => fun
  | [d1, d2, d3, d4] => { results := [.lit (.bool true)], args := [d1, d2, d3, d4] }
  | _ => none }
def padwrapTellsRow : OpenClaim := { program := "ytefoonegobcoaaa", sum := "84db2ac42d3464b3ffcec1dc9fa00df7a4f8a01a64e713766b0e37dc86a09bd5", func := "claviger/clavigerlaw14.PadwrapTells", spec := "padwrapTells", unfollowed := true, recurses := true, apart := false }
def PadwrapTellsSaid : Prop := padwrapTellsRow.holds Try.pinned (OpenSpec.ofChange padwrapTellsSpec)

/-- ITS FALSE NEIGHBOUR: 'it returns false'. Refute it at one input. -/
def padwrapTellsWrong : ChangeSpec := { name := "padwrapTells", fn := fun _ => fun
  | [d1, d2, d3, d4] => { results := [.lit (.bool false)], args := [d1, d2, d3, d4] }
  | _ => none }
def PadwrapTellsWrongFalsely : Prop := padwrapTellsRow.holds Try.pinned (OpenSpec.ofChange padwrapTellsWrong)

/-- 'clavigerlaw14.PadwrapBack': WHATEVER THE INPUT: true; the input reads as it did. -/
def padwrapBackSpec : ChangeSpec := { name := "padwrapBack", fn := fun _ => fun
  | [d1, d2] => { results := [.lit (.bool true)], args := [d1, d2] }
  | _ => none }
def padwrapBackRow : OpenClaim := { program := "ytefoonegobcoaaa", sum := "84db2ac42d3464b3ffcec1dc9fa00df7a4f8a01a64e713766b0e37dc86a09bd5", func := "claviger/clavigerlaw14.PadwrapBack", spec := "padwrapBack", unfollowed := true, recurses := true, apart := false }
def PadwrapBackSaid : Prop := padwrapBackRow.holds Try.pinned (OpenSpec.ofChange padwrapBackSpec)

/-- ITS FALSE NEIGHBOUR: 'it returns false'. Refute it at one input. -/
def padwrapBackWrong : ChangeSpec := { name := "padwrapBack", fn := fun _ => fun
  | [d1, d2] => { results := [.lit (.bool false)], args := [d1, d2] }
  | _ => none }
def PadwrapBackWrongFalsely : Prop := padwrapBackRow.holds Try.pinned (OpenSpec.ofChange padwrapBackWrong)

/-- 'clavigerlaw14.PadwrapOne': WHATEVER THE INPUT: true; the input reads as it did. -/
def padwrapOneSpec : ChangeSpec := { name := "padwrapOne", fn := fun _ => fun
  | [d1, d2] => { results := [.lit (.bool true)], args := [d1, d2] }
  | _ => none }
def padwrapOneRow : OpenClaim := { program := "ytefoonegobcoaaa", sum := "84db2ac42d3464b3ffcec1dc9fa00df7a4f8a01a64e713766b0e37dc86a09bd5", func := "claviger/clavigerlaw14.PadwrapOne", spec := "padwrapOne", unfollowed := true, recurses := true, apart := false }
def PadwrapOneSaid : Prop := padwrapOneRow.holds Try.pinned (OpenSpec.ofChange padwrapOneSpec)

/-- ITS FALSE NEIGHBOUR: 'it returns false'. Refute it at one input. -/
def padwrapOneWrong : ChangeSpec := { name := "padwrapOne", fn := fun _ => fun
  | [d1, d2] => { results := [.lit (.bool false)], args := [d1, d2] }
  | _ => none }
def PadwrapOneWrongFalsely : Prop := padwrapOneRow.holds Try.pinned (OpenSpec.ofChange padwrapOneWrong)

/- THE SECOND FORM. 'bulk': how many values and letters a reading holds, each counted each time it is reached (what is shared counts as often as it is met; a slice's spare places count too). A statement '..UptoSaid' is the law's where the arguments, and the package variables that the reading takes, are together of bulk at most 1048576: NARROWER than '..Said'. Prove '..Said' where nothing that the law and all that it calls make is longer than what came in: it says more and counts as full. Else prove '..UptoSaid'. A law counts once. -/
mutual
def uptoBulk {H : Type} : DataW H → Nat
  | .lit (.string bytes) => bytes.length + 1
  | .lit _ => 1
  | .nil => 1
  | .ptr d => uptoBulk d + 1
  | .slice elems spare => uptoBulkAll elems + uptoBulkAll spare + 1
  | .agg parts => uptoBulkAll parts + 1
  | .iface _ d => uptoBulk d + 1
  | .map entries => uptoBulkEntries entries + 1
  | .held _ => 1
def uptoBulkAll {H : Type} : List (DataW H) → Nat
  | [] => 0
  | d :: r => uptoBulk d + uptoBulkAll r
def uptoBulkEntries {H : Type} : List (Lit × DataW H) → Nat
  | [] => 0
  | x :: r => uptoBulkEntry x + uptoBulkEntries r
def uptoBulkEntry {H : Type} : Lit × DataW H → Nat
  | (.string bytes, d) => bytes.length + uptoBulk d + 1
  | (_, d) => uptoBulk d + 1
 end
def uptoSmall : (H : Type) → List (DataW H) → Bool := fun _ ds => decide (uptoBulkAll ds ≤ 1048576)
def OpenSpec.upto (s : _root_.Go.ChangeSpec) : _root_.Go.OpenSpec := { _root_.Go.OpenSpec.ofChange s with cond := some uptoSmall }

/-- 'clavigerlaw13.WrapTells', WHERE WHAT IT READS IS OF BULK AT MOST 1048576: true; the input reads as it did. -/
def wrapTellsUptoRow : OpenClaim := { program := "ytefoonegobcoaaa", sum := "84db2ac42d3464b3ffcec1dc9fa00df7a4f8a01a64e713766b0e37dc86a09bd5", func := "claviger/clavigerlaw13.WrapTells", spec := "wrapTells", unfollowed := true, recurses := true, apart := false, narrowed := true }
def WrapTellsUptoSaid : Prop := wrapTellsUptoRow.holds Try.pinned (OpenSpec.upto wrapTellsSpec)

/-- 'clavigerlaw13.WrapBack', WHERE WHAT IT READS IS OF BULK AT MOST 1048576: true; the input reads as it did. -/
def wrapBackUptoRow : OpenClaim := { program := "ytefoonegobcoaaa", sum := "84db2ac42d3464b3ffcec1dc9fa00df7a4f8a01a64e713766b0e37dc86a09bd5", func := "claviger/clavigerlaw13.WrapBack", spec := "wrapBack", unfollowed := true, recurses := true, apart := false, narrowed := true }
def WrapBackUptoSaid : Prop := wrapBackUptoRow.holds Try.pinned (OpenSpec.upto wrapBackSpec)

/-- 'clavigerlaw13.WrapOne', WHERE WHAT IT READS IS OF BULK AT MOST 1048576: true; the input reads as it did. -/
def wrapOneUptoRow : OpenClaim := { program := "ytefoonegobcoaaa", sum := "84db2ac42d3464b3ffcec1dc9fa00df7a4f8a01a64e713766b0e37dc86a09bd5", func := "claviger/clavigerlaw13.WrapOne", spec := "wrapOne", unfollowed := true, recurses := true, apart := false, narrowed := true }
def WrapOneUptoSaid : Prop := wrapOneUptoRow.holds Try.pinned (OpenSpec.upto wrapOneSpec)

/-- 'clavigerlaw14.PadwrapTells', WHERE WHAT IT READS IS OF BULK AT MOST 1048576: true; the input reads as it did. -/
def padwrapTellsUptoRow : OpenClaim := { program := "ytefoonegobcoaaa", sum := "84db2ac42d3464b3ffcec1dc9fa00df7a4f8a01a64e713766b0e37dc86a09bd5", func := "claviger/clavigerlaw14.PadwrapTells", spec := "padwrapTells", unfollowed := true, recurses := true, apart := false, narrowed := true }
def PadwrapTellsUptoSaid : Prop := padwrapTellsUptoRow.holds Try.pinned (OpenSpec.upto padwrapTellsSpec)

/-- 'clavigerlaw14.PadwrapBack', WHERE WHAT IT READS IS OF BULK AT MOST 1048576: true; the input reads as it did. -/
def padwrapBackUptoRow : OpenClaim := { program := "ytefoonegobcoaaa", sum := "84db2ac42d3464b3ffcec1dc9fa00df7a4f8a01a64e713766b0e37dc86a09bd5", func := "claviger/clavigerlaw14.PadwrapBack", spec := "padwrapBack", unfollowed := true, recurses := true, apart := false, narrowed := true }
def PadwrapBackUptoSaid : Prop := padwrapBackUptoRow.holds Try.pinned (OpenSpec.upto padwrapBackSpec)

/-- 'clavigerlaw14.PadwrapOne', WHERE WHAT IT READS IS OF BULK AT MOST 1048576: true; the input reads as it did. -/
def padwrapOneUptoRow : OpenClaim := { program := "ytefoonegobcoaaa", sum := "84db2ac42d3464b3ffcec1dc9fa00df7a4f8a01a64e713766b0e37dc86a09bd5", func := "claviger/clavigerlaw14.PadwrapOne", spec := "padwrapOne", unfollowed := true, recurses := true, apart := false, narrowed := true }
def PadwrapOneUptoSaid : Prop := padwrapOneUptoRow.holds Try.pinned (OpenSpec.upto padwrapOneSpec)

end Rows
end Go.Proofs.Ytefoonegobcoaaa
