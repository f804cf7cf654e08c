/-
  NARROWER THAN 'FOR EVERY INPUT', by the rows' own cells (each row's printed sentence says how): FaultTells: laid · FaultCounts: laid · FaultFound: laid.
  DERIVED. THE GIVEN ROWS OF THIS SEAT. 3 by the template 'for every input the law returns true; each argument reads behind the call as it read before'; 0 by the template 'total and deterministic' (their statements: YtcdjpdncgaeinaaDoorTotals.lean).
  GIVEN WITH THE SEED: the statements are not yours to turn. If you find one false, say at which input.
  Laid BY PROGRAM, IN A SANDBOX (cutbox-rows.mjs): the forced cells as the released guide's own fill.sh prints them over the translation 1f3f73b00d5434bb… (all of the seat's roots in one cut). By AI agents, Wed Nov 11 2026. No macro, syntax, notation, axiom, sorry.
-/
import Derived.Test.YtcdjpdncgaeinaaDoorChecked
import GoSem.Claim
import GoSem.ClaimJoined
import GoSem.ClaimMapViews
import Derived.JoinedTies
import Derived.KernelRfl
namespace Go.Proofs.YtcdjpdncgaeinaaDoor
/- THE CELL 'sum', in the pinned program and in every row, IS THE sha256 OF THE DUMP (.gsa) THAT YtcdjpdncgaeinaaDoorProg.lean LOADS. Nothing in Lean hashes anything: it is a label: what it is worth is what the hold of that sum in a sandbox is worth. -/
noncomputable def Tryd.pinned : Pinned := { name := "ytcdjpdncgaeinaadoor", sum := "1f3f73b00d5434bb6158390e802d9aa8ac60e8e10bd400ab7acf96df191129b5", checked := Tryd.checked }
namespace Rows
def none {H : Type} : Left H := { results := [], args := [] }

/- WHAT THE LISTED PACKAGE-LEVEL VARIABLES READ AS WHEN THE CALL BEGINS. Each datum BY PROGRAM (the guide's laid-datum.mjs) off the statement by which the dump's own 'gosem.cut.vars' lays the variable. In a bare row this is a premise. The card (YtcdjpdncgaeinaaDoorCards.lean) ties it to the program's text. -/
def laid_claviger_fault_names {H : Type} : DataW H := .agg [.lit (.string [111, 107]), .lit (.string [97, 114, 103, 117, 109, 101, 110, 116]), .lit (.string [107, 101, 121]), .lit (.string [101, 109, 112, 116, 121]), .lit (.string [115, 105, 122, 101]), .lit (.string [102, 111, 114, 109]), .lit (.string [100, 101, 112, 116, 104]), .lit (.string [115, 117, 109]), .lit (.string [107, 105, 110, 100]), .lit (.string [108, 101, 110, 103, 116, 104]), .lit (.string [118, 97, 108, 117, 101]), .lit (.string [97, 116, 116, 114, 105, 98, 117, 116, 101, 115]), .lit (.string [104, 101, 97, 100, 101, 114]), .lit (.string [112, 97, 100, 115]), .lit (.string [117, 115, 97, 103, 101]), .lit (.string [110, 111, 110, 101]), .lit (.string [116, 119, 105, 99, 101]), .lit (.string [102, 117, 108, 108])]
def laid_claviger_fault_classes {H : Type} : DataW H := .agg [.lit (.int .i64 0), .lit (.int .i64 1), .lit (.int .i64 1), .lit (.int .i64 3), .lit (.int .i64 3), .lit (.int .i64 3), .lit (.int .i64 3), .lit (.int .i64 3), .lit (.int .i64 1), .lit (.int .i64 2), .lit (.int .i64 2), .lit (.int .i64 2), .lit (.int .i64 2), .lit (.int .i64 1), .lit (.int .i64 1), .lit (.int .i64 4), .lit (.int .i64 4), .lit (.int .i64 4)]

/-- 'clavigerlaw40.FaultTells': WHATEVER THE INPUT: true; the input reads as it did. -/
def faultTellsSpec : ChangeSpec := { name := "faultTells", fn := fun _ => fun
  | [d1, d2] => { results := [.lit (.bool true)], args := [d1, d2] }
  | _ => none }
def faultTellsRow : OpenClaim := { program := "ytcdjpdncgaeinaadoor", sum := "1f3f73b00d5434bb6158390e802d9aa8ac60e8e10bd400ab7acf96df191129b5", func := "claviger/clavigerlaw40.FaultTells", spec := "faultTells", named := ["claviger/fault.names", "claviger/fault.classes"], apart := false, laid := [("claviger/fault.names", laid_claviger_fault_names), ("claviger/fault.classes", laid_claviger_fault_classes)] }
def FaultTellsSaid : Prop := faultTellsRow.holds Tryd.pinned (OpenSpec.ofChange faultTellsSpec)

/-- ITS FALSE NEIGHBOUR: 'it returns false'. Refute it at one input. -/
def faultTellsWrong : ChangeSpec := { name := "faultTells", fn := fun _ => fun
  | [d1, d2] => { results := [.lit (.bool false)], args := [d1, d2] }
  | _ => none }
def FaultTellsWrongFalsely : Prop := faultTellsRow.holds Tryd.pinned (OpenSpec.ofChange faultTellsWrong)

/-- 'clavigerlaw40.FaultCounts': WHATEVER THE INPUT: true; the input reads as it did. -/
def faultCountsSpec : ChangeSpec := { name := "faultCounts", fn := fun _ => fun
  | [d1, d2, d3] => { results := [.lit (.bool true)], args := [d1, d2, d3] }
  | _ => none }
def faultCountsRow : OpenClaim := { program := "ytcdjpdncgaeinaadoor", sum := "1f3f73b00d5434bb6158390e802d9aa8ac60e8e10bd400ab7acf96df191129b5", func := "claviger/clavigerlaw40.FaultCounts", spec := "faultCounts", named := ["claviger/fault.names", "claviger/fault.classes"], apart := false, laid := [("claviger/fault.names", laid_claviger_fault_names), ("claviger/fault.classes", laid_claviger_fault_classes)] }
def FaultCountsSaid : Prop := faultCountsRow.holds Tryd.pinned (OpenSpec.ofChange faultCountsSpec)

/-- ITS FALSE NEIGHBOUR: 'it returns false'. Refute it at one input. -/
def faultCountsWrong : ChangeSpec := { name := "faultCounts", fn := fun _ => fun
  | [d1, d2, d3] => { results := [.lit (.bool false)], args := [d1, d2, d3] }
  | _ => none }
def FaultCountsWrongFalsely : Prop := faultCountsRow.holds Tryd.pinned (OpenSpec.ofChange faultCountsWrong)

/-- 'clavigerlaw40.FaultFound': WHATEVER THE INPUT: true; the input reads as it did. -/
def faultFoundSpec : ChangeSpec := { name := "faultFound", fn := fun _ => fun
  | [d] => { results := [.lit (.bool true)], args := [d] }
  | _ => none }
def faultFoundRow : OpenClaim := { program := "ytcdjpdncgaeinaadoor", sum := "1f3f73b00d5434bb6158390e802d9aa8ac60e8e10bd400ab7acf96df191129b5", func := "claviger/clavigerlaw40.FaultFound", spec := "faultFound", named := ["claviger/fault.names", "claviger/fault.classes"], apart := false, laid := [("claviger/fault.names", laid_claviger_fault_names), ("claviger/fault.classes", laid_claviger_fault_classes)] }
def FaultFoundSaid : Prop := faultFoundRow.holds Tryd.pinned (OpenSpec.ofChange faultFoundSpec)

/-- ITS FALSE NEIGHBOUR: 'it returns false'. Refute it at one input. -/
def faultFoundWrong : ChangeSpec := { name := "faultFound", fn := fun _ => fun
  | [d] => { results := [.lit (.bool false)], args := [d] }
  | _ => none }
def FaultFoundWrongFalsely : Prop := faultFoundRow.holds Tryd.pinned (OpenSpec.ofChange faultFoundWrong)

/- THE SECOND FORM. 'bulk': how many values and letters a reading holds, each counted each time it is reached (what is shared counts as often as it is met; a slice's spare places count too). A statement '..UptoSaid' is the law's where the arguments, and the package variables that the reading takes, are together of bulk at most 1048576: NARROWER than '..Said'. Prove '..Said' where nothing that the law and all that it calls make is longer than what came in: it says more and counts as full. Else prove '..UptoSaid'. A law counts once. -/
mutual
def uptoBulk {H : Type} : DataW H → Nat
  | .lit (.string bytes) => bytes.length + 1
  | .lit _ => 1
  | .nil => 1
  | .ptr d => uptoBulk d + 1
  | .slice elems spare => uptoBulkAll elems + uptoBulkAll spare + 1
  | .agg parts => uptoBulkAll parts + 1
  | .iface _ d => uptoBulk d + 1
  | .map entries => uptoBulkEntries entries + 1
  | .held _ => 1
def uptoBulkAll {H : Type} : List (DataW H) → Nat
  | [] => 0
  | d :: r => uptoBulk d + uptoBulkAll r
def uptoBulkEntries {H : Type} : List (Lit × DataW H) → Nat
  | [] => 0
  | x :: r => uptoBulkEntry x + uptoBulkEntries r
def uptoBulkEntry {H : Type} : Lit × DataW H → Nat
  | (.string bytes, d) => bytes.length + uptoBulk d + 1
  | (_, d) => uptoBulk d + 1
 end
def uptoSmall : (H : Type) → List (DataW H) → Bool := fun _ ds => decide (uptoBulkAll ds ≤ 1048576)
def OpenSpec.upto (s : _root_.Go.ChangeSpec) : _root_.Go.OpenSpec := { _root_.Go.OpenSpec.ofChange s with cond := some uptoSmall }

/-- 'clavigerlaw40.FaultTells', WHERE WHAT IT READS IS OF BULK AT MOST 1048576: true; the input reads as it did. -/
def faultTellsUptoRow : OpenClaim := { program := "ytcdjpdncgaeinaadoor", sum := "1f3f73b00d5434bb6158390e802d9aa8ac60e8e10bd400ab7acf96df191129b5", func := "claviger/clavigerlaw40.FaultTells", spec := "faultTells", named := ["claviger/fault.names", "claviger/fault.classes"], apart := false, laid := [("claviger/fault.names", laid_claviger_fault_names), ("claviger/fault.classes", laid_claviger_fault_classes)], narrowed := true }
def FaultTellsUptoSaid : Prop := faultTellsUptoRow.holds Tryd.pinned (OpenSpec.upto faultTellsSpec)

/-- 'clavigerlaw40.FaultCounts', WHERE WHAT IT READS IS OF BULK AT MOST 1048576: true; the input reads as it did. -/
def faultCountsUptoRow : OpenClaim := { program := "ytcdjpdncgaeinaadoor", sum := "1f3f73b00d5434bb6158390e802d9aa8ac60e8e10bd400ab7acf96df191129b5", func := "claviger/clavigerlaw40.FaultCounts", spec := "faultCounts", named := ["claviger/fault.names", "claviger/fault.classes"], apart := false, laid := [("claviger/fault.names", laid_claviger_fault_names), ("claviger/fault.classes", laid_claviger_fault_classes)], narrowed := true }
def FaultCountsUptoSaid : Prop := faultCountsUptoRow.holds Tryd.pinned (OpenSpec.upto faultCountsSpec)

/-- 'clavigerlaw40.FaultFound', WHERE WHAT IT READS IS OF BULK AT MOST 1048576: true; the input reads as it did. -/
def faultFoundUptoRow : OpenClaim := { program := "ytcdjpdncgaeinaadoor", sum := "1f3f73b00d5434bb6158390e802d9aa8ac60e8e10bd400ab7acf96df191129b5", func := "claviger/clavigerlaw40.FaultFound", spec := "faultFound", named := ["claviger/fault.names", "claviger/fault.classes"], apart := false, laid := [("claviger/fault.names", laid_claviger_fault_names), ("claviger/fault.classes", laid_claviger_fault_classes)], narrowed := true }
def FaultFoundUptoSaid : Prop := faultFoundUptoRow.holds Tryd.pinned (OpenSpec.upto faultFoundSpec)

end Rows
end Go.Proofs.YtcdjpdncgaeinaaDoor
