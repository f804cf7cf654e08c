/-
  No cell of these rows narrows 'for every input' (looked for: loops, veiled, ifaces, maps, wideKeys, modest, calm, conditions, laid).
  DERIVED. THE GIVEN ROWS OF THIS SEAT. 6 by the template 'for every input the law returns true; each argument reads behind the call as it read before'; 0 by the template 'total and deterministic' (their statements: YtcdjpdncgaeinaaTotals.lean).
  GIVEN WITH THE SEED: the statements are not yours to turn. If you find one false, say at which input.
  Laid BY PROGRAM, IN A SANDBOX (cutbox-rows.mjs): the forced cells as the released guide's own fill.sh prints them over the translation 402a29e6a2fde303… (all of the seat's roots in one cut). By AI agents, Wed Nov 11 2026. No macro, syntax, notation, axiom, sorry.
-/
import Derived.Test.YtcdjpdncgaeinaaChecked
import GoSem.Claim
import GoSem.ClaimJoined
import GoSem.ClaimMapViews
import Derived.JoinedTies
import Derived.KernelRfl
namespace Go.Proofs.Ytcdjpdncgaeinaa
/- THE CELL 'sum', in the pinned program and in every row, IS THE sha256 OF THE DUMP (.gsa) THAT YtcdjpdncgaeinaaProg.lean LOADS. Nothing in Lean hashes anything: it is a label: what it is worth is what the hold of that sum in a sandbox is worth. -/
noncomputable def Try.pinned : Pinned := { name := "ytcdjpdncgaeinaa", sum := "402a29e6a2fde30345e9b1799177063f37f86fd076a629efca65dec5cf2d9e4f", checked := Try.checked }
namespace Rows
def none {H : Type} : Left H := { results := [], args := [] }

/-- 'clavigerlaw05.FieldTells': WHATEVER THE INPUT: true; the input reads as it did. -/
def fieldTellsSpec : ChangeSpec := { name := "fieldTells", fn := fun _ => fun
  | [d1, d2, d3] => { results := [.lit (.bool true)], args := [d1, d2, d3] }
  | _ => none }
def fieldTellsRow : OpenClaim := { program := "ytcdjpdncgaeinaa", sum := "402a29e6a2fde30345e9b1799177063f37f86fd076a629efca65dec5cf2d9e4f", func := "claviger/clavigerlaw05.FieldTells", spec := "fieldTells", apart := false }
def FieldTellsSaid : Prop := fieldTellsRow.holds Try.pinned (OpenSpec.ofChange fieldTellsSpec)

/-- ITS FALSE NEIGHBOUR: 'it returns false'. Refute it at one input. -/
def fieldTellsWrong : ChangeSpec := { name := "fieldTells", fn := fun _ => fun
  | [d1, d2, d3] => { results := [.lit (.bool false)], args := [d1, d2, d3] }
  | _ => none }
def FieldTellsWrongFalsely : Prop := fieldTellsRow.holds Try.pinned (OpenSpec.ofChange fieldTellsWrong)

/-- 'clavigerlaw05.FieldDots': WHATEVER THE INPUT: true; the input reads as it did. -/
def fieldDotsSpec : ChangeSpec := { name := "fieldDots", fn := fun _ => fun
  | [d1, d2] => { results := [.lit (.bool true)], args := [d1, d2] }
  | _ => none }
def fieldDotsRow : OpenClaim := { program := "ytcdjpdncgaeinaa", sum := "402a29e6a2fde30345e9b1799177063f37f86fd076a629efca65dec5cf2d9e4f", func := "claviger/clavigerlaw05.FieldDots", spec := "fieldDots", apart := false }
def FieldDotsSaid : Prop := fieldDotsRow.holds Try.pinned (OpenSpec.ofChange fieldDotsSpec)

/-- ITS FALSE NEIGHBOUR: 'it returns false'. Refute it at one input. -/
def fieldDotsWrong : ChangeSpec := { name := "fieldDots", fn := fun _ => fun
  | [d1, d2] => { results := [.lit (.bool false)], args := [d1, d2] }
  | _ => none }
def FieldDotsWrongFalsely : Prop := fieldDotsRow.holds Try.pinned (OpenSpec.ofChange fieldDotsWrong)

/-- 'clavigerlaw05.FieldLaws': WHATEVER THE INPUT: true; the input reads as it did. -/
def fieldLawsSpec : ChangeSpec := { name := "fieldLaws", fn := fun _ => fun
  | [d1, d2, d3] => { results := [.lit (.bool true)], args := [d1, d2, d3] }
  | _ => none }
def fieldLawsRow : OpenClaim := { program := "ytcdjpdncgaeinaa", sum := "402a29e6a2fde30345e9b1799177063f37f86fd076a629efca65dec5cf2d9e4f", func := "claviger/clavigerlaw05.FieldLaws", spec := "fieldLaws", apart := false }
def FieldLawsSaid : Prop := fieldLawsRow.holds Try.pinned (OpenSpec.ofChange fieldLawsSpec)

/-- ITS FALSE NEIGHBOUR: 'it returns false'. Refute it at one input. -/
def fieldLawsWrong : ChangeSpec := { name := "fieldLaws", fn := fun _ => fun
  | [d1, d2, d3] => { results := [.lit (.bool false)], args := [d1, d2, d3] }
  | _ => none }
def FieldLawsWrongFalsely : Prop := fieldLawsRow.holds Try.pinned (OpenSpec.ofChange fieldLawsWrong)

/-- 'clavigerlaw06.SboxTells': WHATEVER THE INPUT: true; the input reads as it did. -/
def sboxTellsSpec : ChangeSpec := { name := "sboxTells", fn := fun _ => fun
  | [d1, d2, d3] => { results := [.lit (.bool true)], args := [d1, d2, d3] }
  | _ => none }
def sboxTellsRow : OpenClaim := { program := "ytcdjpdncgaeinaa", sum := "402a29e6a2fde30345e9b1799177063f37f86fd076a629efca65dec5cf2d9e4f", func := "claviger/clavigerlaw06.SboxTells", spec := "sboxTells", unfollowed := true, recurses := true, apart := false }
def SboxTellsSaid : Prop := sboxTellsRow.holds Try.pinned (OpenSpec.ofChange sboxTellsSpec)

/-- ITS FALSE NEIGHBOUR: 'it returns false'. Refute it at one input. -/
def sboxTellsWrong : ChangeSpec := { name := "sboxTells", fn := fun _ => fun
  | [d1, d2, d3] => { results := [.lit (.bool false)], args := [d1, d2, d3] }
  | _ => none }
def SboxTellsWrongFalsely : Prop := sboxTellsRow.holds Try.pinned (OpenSpec.ofChange sboxTellsWrong)

/-- 'clavigerlaw06.SboxBy': WHATEVER THE INPUT: true; the input reads as it did. -/
def sboxBySpec : ChangeSpec := { name := "sboxBy", fn := fun _ => fun
  | [d] => { results := [.lit (.bool true)], args := [d] }
  | _ => none }
def sboxByRow : OpenClaim := { program := "ytcdjpdncgaeinaa", sum := "402a29e6a2fde30345e9b1799177063f37f86fd076a629efca65dec5cf2d9e4f", func := "claviger/clavigerlaw06.SboxBy", spec := "sboxBy", unfollowed := true, recurses := true, apart := false }
def SboxBySaid : Prop := sboxByRow.holds Try.pinned (OpenSpec.ofChange sboxBySpec)

/-- ITS FALSE NEIGHBOUR: 'it returns false'. Refute it at one input. -/
def sboxByWrong : ChangeSpec := { name := "sboxBy", fn := fun _ => fun
  | [d] => { results := [.lit (.bool false)], args := [d] }
  | _ => none }
def SboxByWrongFalsely : Prop := sboxByRow.holds Try.pinned (OpenSpec.ofChange sboxByWrong)

/-- 'clavigerlaw06.SboxOnce': WHATEVER THE INPUT: true; the input reads as it did. -/
def sboxOnceSpec : ChangeSpec := { name := "sboxOnce", fn := fun _ => fun
  | [d1, d2] => { results := [.lit (.bool true)], args := [d1, d2] }
  | _ => none }
def sboxOnceRow : OpenClaim := { program := "ytcdjpdncgaeinaa", sum := "402a29e6a2fde30345e9b1799177063f37f86fd076a629efca65dec5cf2d9e4f", func := "claviger/clavigerlaw06.SboxOnce", spec := "sboxOnce", unfollowed := true, recurses := true, apart := false }
def SboxOnceSaid : Prop := sboxOnceRow.holds Try.pinned (OpenSpec.ofChange sboxOnceSpec)

/-- ITS FALSE NEIGHBOUR: 'it returns false'. Refute it at one input. -/
def sboxOnceWrong : ChangeSpec := { name := "sboxOnce", fn := fun _ => fun
  | [d1, d2] => { results := [.lit (.bool false)], args := [d1, d2] }
  | _ => none }
def SboxOnceWrongFalsely : Prop := sboxOnceRow.holds Try.pinned (OpenSpec.ofChange sboxOnceWrong)

/- THE SECOND FORM. 'bulk': how many values and letters a reading holds, each counted each time it is reached (what is shared counts as often as it is met; a slice's spare places count too). A statement '..UptoSaid' is the law's where the arguments, and the package variables that the reading takes, are together of bulk at most 1048576: NARROWER than '..Said'. Prove '..Said' where nothing that the law and all that it calls make is longer than what came in: it says more and counts as full. Else prove '..UptoSaid'. A law counts once. -/
mutual
def uptoBulk {H : Type} : DataW H → Nat
  | .lit (.string bytes) => bytes.length + 1
  | .lit _ => 1
  | .nil => 1
  | .ptr d => uptoBulk d + 1
  | .slice elems spare => uptoBulkAll elems + uptoBulkAll spare + 1
  | .agg parts => uptoBulkAll parts + 1
  | .iface _ d => uptoBulk d + 1
  | .map entries => uptoBulkEntries entries + 1
  | .held _ => 1
def uptoBulkAll {H : Type} : List (DataW H) → Nat
  | [] => 0
  | d :: r => uptoBulk d + uptoBulkAll r
def uptoBulkEntries {H : Type} : List (Lit × DataW H) → Nat
  | [] => 0
  | x :: r => uptoBulkEntry x + uptoBulkEntries r
def uptoBulkEntry {H : Type} : Lit × DataW H → Nat
  | (.string bytes, d) => bytes.length + uptoBulk d + 1
  | (_, d) => uptoBulk d + 1
 end
def uptoSmall : (H : Type) → List (DataW H) → Bool := fun _ ds => decide (uptoBulkAll ds ≤ 1048576)
def OpenSpec.upto (s : _root_.Go.ChangeSpec) : _root_.Go.OpenSpec := { _root_.Go.OpenSpec.ofChange s with cond := some uptoSmall }

/-- 'clavigerlaw05.FieldTells', WHERE WHAT IT READS IS OF BULK AT MOST 1048576: true; the input reads as it did. -/
def fieldTellsUptoRow : OpenClaim := { program := "ytcdjpdncgaeinaa", sum := "402a29e6a2fde30345e9b1799177063f37f86fd076a629efca65dec5cf2d9e4f", func := "claviger/clavigerlaw05.FieldTells", spec := "fieldTells", apart := false, narrowed := true }
def FieldTellsUptoSaid : Prop := fieldTellsUptoRow.holds Try.pinned (OpenSpec.upto fieldTellsSpec)

/-- 'clavigerlaw05.FieldDots', WHERE WHAT IT READS IS OF BULK AT MOST 1048576: true; the input reads as it did. -/
def fieldDotsUptoRow : OpenClaim := { program := "ytcdjpdncgaeinaa", sum := "402a29e6a2fde30345e9b1799177063f37f86fd076a629efca65dec5cf2d9e4f", func := "claviger/clavigerlaw05.FieldDots", spec := "fieldDots", apart := false, narrowed := true }
def FieldDotsUptoSaid : Prop := fieldDotsUptoRow.holds Try.pinned (OpenSpec.upto fieldDotsSpec)

/-- 'clavigerlaw05.FieldLaws', WHERE WHAT IT READS IS OF BULK AT MOST 1048576: true; the input reads as it did. -/
def fieldLawsUptoRow : OpenClaim := { program := "ytcdjpdncgaeinaa", sum := "402a29e6a2fde30345e9b1799177063f37f86fd076a629efca65dec5cf2d9e4f", func := "claviger/clavigerlaw05.FieldLaws", spec := "fieldLaws", apart := false, narrowed := true }
def FieldLawsUptoSaid : Prop := fieldLawsUptoRow.holds Try.pinned (OpenSpec.upto fieldLawsSpec)

/-- 'clavigerlaw06.SboxTells', WHERE WHAT IT READS IS OF BULK AT MOST 1048576: true; the input reads as it did. -/
def sboxTellsUptoRow : OpenClaim := { program := "ytcdjpdncgaeinaa", sum := "402a29e6a2fde30345e9b1799177063f37f86fd076a629efca65dec5cf2d9e4f", func := "claviger/clavigerlaw06.SboxTells", spec := "sboxTells", unfollowed := true, recurses := true, apart := false, narrowed := true }
def SboxTellsUptoSaid : Prop := sboxTellsUptoRow.holds Try.pinned (OpenSpec.upto sboxTellsSpec)

/-- 'clavigerlaw06.SboxBy', WHERE WHAT IT READS IS OF BULK AT MOST 1048576: true; the input reads as it did. -/
def sboxByUptoRow : OpenClaim := { program := "ytcdjpdncgaeinaa", sum := "402a29e6a2fde30345e9b1799177063f37f86fd076a629efca65dec5cf2d9e4f", func := "claviger/clavigerlaw06.SboxBy", spec := "sboxBy", unfollowed := true, recurses := true, apart := false, narrowed := true }
def SboxByUptoSaid : Prop := sboxByUptoRow.holds Try.pinned (OpenSpec.upto sboxBySpec)

/-- 'clavigerlaw06.SboxOnce', WHERE WHAT IT READS IS OF BULK AT MOST 1048576: true; the input reads as it did. -/
def sboxOnceUptoRow : OpenClaim := { program := "ytcdjpdncgaeinaa", sum := "402a29e6a2fde30345e9b1799177063f37f86fd076a629efca65dec5cf2d9e4f", func := "claviger/clavigerlaw06.SboxOnce", spec := "sboxOnce", unfollowed := true, recurses := true, apart := false, narrowed := true }
def SboxOnceUptoSaid : Prop := sboxOnceUptoRow.holds Try.pinned (OpenSpec.upto sboxOnceSpec)

end Rows
end Go.Proofs.Ytcdjpdncgaeinaa
