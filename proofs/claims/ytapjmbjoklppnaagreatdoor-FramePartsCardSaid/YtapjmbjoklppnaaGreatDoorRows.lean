/-
  NARROWER THAN 'FOR EVERY INPUT', by the rows' own cells (each row's printed sentence says how): FrameTells: laid · FrameParts: laid.
  DERIVED. THE GIVEN ROWS OF THIS SEAT. 2 by the template 'for every input the law returns true; each argument reads behind the call as it read before'; 0 by the template 'total and deterministic' (their statements: YtapjmbjoklppnaaGreatDoorTotals.lean).
  GIVEN WITH THE SEED: the statements are not yours to turn. If you find one false, say at which input.
  Laid BY PROGRAM, IN A SANDBOX (cutbox-rows.mjs): the forced cells as the released guide's own fill.sh prints them over the translation fc2804dadb8c1da9… (all of the seat's roots in one cut). By AI agents, Wed Nov 11 2026. No macro, syntax, notation, axiom, sorry.
-/
import Derived.Test.YtapjmbjoklppnaaGreatDoorChecked
import GoSem.Claim
import GoSem.ClaimJoined
import GoSem.ClaimMapViews
import Derived.JoinedTies
import Derived.KernelRfl
namespace Go.Proofs.YtapjmbjoklppnaaGreatDoor
/- THE CELL 'sum', in the pinned program and in every row, IS THE sha256 OF THE DUMP (.gsa) THAT YtapjmbjoklppnaaGreatDoorProg.lean LOADS. Nothing in Lean hashes anything: it is a label: what it is worth is what the hold of that sum in a sandbox is worth. -/
noncomputable def Tryz.pinned : Pinned := { name := "ytapjmbjoklppnaagreatdoor", sum := "fc2804dadb8c1da963e2024ec140113488596b5142085f273034c25c4f7ed1d5", checked := Tryz.checked }
namespace Rows
def none {H : Type} : Left H := { results := [], args := [] }

/- WHAT THE LISTED PACKAGE-LEVEL VARIABLES READ AS WHEN THE CALL BEGINS. Each datum BY PROGRAM (the guide's laid-datum.mjs) off the statement by which the dump's own 'gosem.cut.vars' lays the variable. In a bare row this is a premise. The card (YtapjmbjoklppnaaGreatDoorCards.lean) ties it to the program's text. -/
def laid_claviger_kind_lines {H : Type} : DataW H := .agg [.agg [.lit (.string [65, 69, 83, 45, 49, 50, 56]), .lit (.int .i64 16), .lit (.string [65]), .lit (.int .i64 0), .lit (.string [50, 46, 49, 54, 46, 56, 52, 48, 46, 49, 46, 49, 48, 49, 46, 51, 46, 52, 46, 49, 46, 49])], .agg [.lit (.string [65, 69, 83, 45, 49, 57, 50]), .lit (.int .i64 24), .lit (.string [65]), .lit (.int .i64 0), .lit (.string [50, 46, 49, 54, 46, 56, 52, 48, 46, 49, 46, 49, 48, 49, 46, 51, 46, 52, 46, 49, 46, 50, 49])], .agg [.lit (.string [65, 69, 83, 45, 50, 53, 54]), .lit (.int .i64 32), .lit (.string [65]), .lit (.int .i64 0), .lit (.string [50, 46, 49, 54, 46, 56, 52, 48, 46, 49, 46, 49, 48, 49, 46, 51, 46, 52, 46, 49, 46, 52, 49])], .agg [.lit (.string [84, 68, 69, 83, 45, 50]), .lit (.int .i64 16), .lit (.string [84]), .lit (.int .i64 0), .lit (.string [49, 46, 50, 46, 56, 52, 48, 46, 49, 49, 51, 53, 52, 57, 46, 51, 46, 55])], .agg [.lit (.string [84, 68, 69, 83, 45, 51]), .lit (.int .i64 24), .lit (.string [84]), .lit (.int .i64 0), .lit (.string [49, 46, 50, 46, 56, 52, 48, 46, 49, 49, 51, 53, 52, 57, 46, 51, 46, 55])], .agg [.lit (.string [72, 77, 65, 67, 45, 83, 72, 65, 50, 53, 54]), .lit (.int .i64 32), .lit (.string [72]), .lit (.int .i64 0), .lit (.string [49, 46, 50, 46, 56, 52, 48, 46, 49, 49, 51, 53, 52, 57, 46, 50, 46, 57])], .agg [.lit (.string [72, 77, 65, 67, 45, 83, 72, 65, 53, 49, 50]), .lit (.int .i64 64), .lit (.string [72]), .lit (.int .i64 0), .lit (.string [49, 46, 50, 46, 56, 52, 48, 46, 49, 49, 51, 53, 52, 57, 46, 50, 46, 49, 49])], .agg [.lit (.string [69, 67, 45, 80, 50, 50, 52]), .lit (.int .i64 28), .lit (.string [69]), .lit (.int .i64 1), .lit (.string [49, 46, 50, 46, 56, 52, 48, 46, 49, 48, 48, 52, 53, 46, 50, 46, 49])], .agg [.lit (.string [69, 67, 45, 80, 50, 53, 54]), .lit (.int .i64 32), .lit (.string [69]), .lit (.int .i64 2), .lit (.string [49, 46, 50, 46, 56, 52, 48, 46, 49, 48, 48, 52, 53, 46, 50, 46, 49])], .agg [.lit (.string [69, 67, 45, 80, 51, 56, 52]), .lit (.int .i64 48), .lit (.string [69]), .lit (.int .i64 3), .lit (.string [49, 46, 50, 46, 56, 52, 48, 46, 49, 48, 48, 52, 53, 46, 50, 46, 49])], .agg [.lit (.string [69, 67, 45, 80, 53, 50, 49]), .lit (.int .i64 66), .lit (.string [69]), .lit (.int .i64 4), .lit (.string [49, 46, 50, 46, 56, 52, 48, 46, 49, 48, 48, 52, 53, 46, 50, 46, 49])]]
def laid_claviger_table_lines {H : Type} : DataW H := .agg [.agg [.lit (.string [66, 48]), .lit (.string [65, 84]), .lit (.string [78, 88])], .agg [.lit (.string [68, 48]), .lit (.string [65, 84]), .lit (.string [66, 68, 69, 78])], .agg [.lit (.string [68, 49]), .lit (.string [69]), .lit (.string [66, 68, 69, 78])], .agg [.lit (.string [75, 48]), .lit (.string [65, 84]), .lit (.string [66, 68, 69, 78])], .agg [.lit (.string [75, 49]), .lit (.string [65, 84]), .lit (.string [66, 68, 69, 78])], .agg [.lit (.string [77, 51]), .lit (.string [84]), .lit (.string [67, 71, 78, 86])], .agg [.lit (.string [77, 54]), .lit (.string [65, 84]), .lit (.string [67, 71, 78, 86])], .agg [.lit (.string [77, 55]), .lit (.string [72]), .lit (.string [67, 71, 78, 86])], .agg [.lit (.string [80, 48]), .lit (.string [65, 84]), .lit (.string [66, 68, 69, 78])], .agg [.lit (.string [83, 48]), .lit (.string [69]), .lit (.string [78, 83, 84, 86])], .agg [.lit (.string []), .lit (.string [65, 69, 72, 84]), .lit (.string [66, 67, 68, 69, 71, 78, 83, 84, 86, 88])]]

/-- 'clavigerlaw34.FrameTells': WHATEVER THE INPUT: true; the input reads as it did. -/
def frameTellsSpec : ChangeSpec := { name := "frameTells", fn := fun _ => fun
  | [d1, d2, d3, d4, d5] => { results := [.lit (.bool true)], args := [d1, d2, d3, d4, d5] }
  | _ => none }
def frameTellsRow : OpenClaim := { program := "ytapjmbjoklppnaagreatdoor", sum := "fc2804dadb8c1da963e2024ec140113488596b5142085f273034c25c4f7ed1d5", func := "claviger/clavigerlaw34.FrameTells", spec := "frameTells", inPlace := ["internal/bytealg.IndexByteString", "internal/bytealg.IndexString", "internal/abi.NoEscape", "internal/bytealg.MakeNoZero"], unfollowed := true, recurses := true, named := ["claviger/kind.lines", "claviger/table.lines", "internal/bytealg.MaxLen"], apart := false, laid := [("claviger/kind.lines", laid_claviger_kind_lines), ("claviger/table.lines", laid_claviger_table_lines)] }
def FrameTellsSaid : Prop := frameTellsRow.holds Tryz.pinned (OpenSpec.ofChange frameTellsSpec)

/-- ITS FALSE NEIGHBOUR: 'it returns false'. Refute it at one input. -/
def frameTellsWrong : ChangeSpec := { name := "frameTells", fn := fun _ => fun
  | [d1, d2, d3, d4, d5] => { results := [.lit (.bool false)], args := [d1, d2, d3, d4, d5] }
  | _ => none }
def FrameTellsWrongFalsely : Prop := frameTellsRow.holds Tryz.pinned (OpenSpec.ofChange frameTellsWrong)

/-- 'clavigerlaw34.FrameParts': WHATEVER THE INPUT: true; the input reads as it did. -/
def framePartsSpec : ChangeSpec := { name := "frameParts", fn := fun _ => fun
  | [d] => { results := [.lit (.bool true)], args := [d] }
  | _ => none }
def framePartsRow : OpenClaim := { program := "ytapjmbjoklppnaagreatdoor", sum := "fc2804dadb8c1da963e2024ec140113488596b5142085f273034c25c4f7ed1d5", func := "claviger/clavigerlaw34.FrameParts", spec := "frameParts", inPlace := ["internal/bytealg.IndexByteString", "internal/bytealg.IndexString", "internal/abi.NoEscape", "internal/bytealg.MakeNoZero"], unfollowed := true, recurses := true, named := ["claviger/kind.lines", "claviger/table.lines", "internal/bytealg.MaxLen"], apart := false, laid := [("claviger/kind.lines", laid_claviger_kind_lines), ("claviger/table.lines", laid_claviger_table_lines)] }
def FramePartsSaid : Prop := framePartsRow.holds Tryz.pinned (OpenSpec.ofChange framePartsSpec)

/-- ITS FALSE NEIGHBOUR: 'it returns false'. Refute it at one input. -/
def framePartsWrong : ChangeSpec := { name := "frameParts", fn := fun _ => fun
  | [d] => { results := [.lit (.bool false)], args := [d] }
  | _ => none }
def FramePartsWrongFalsely : Prop := framePartsRow.holds Tryz.pinned (OpenSpec.ofChange framePartsWrong)

/- THE SECOND FORM. 'bulk': how many values and letters a reading holds, each counted each time it is reached (what is shared counts as often as it is met; a slice's spare places count too). A statement '..UptoSaid' is the law's where the arguments, and the package variables that the reading takes, are together of bulk at most 1048576: NARROWER than '..Said'. Prove '..Said' where nothing that the law and all that it calls make is longer than what came in: it says more and counts as full. Else prove '..UptoSaid'. A law counts once. -/
mutual
def uptoBulk {H : Type} : DataW H → Nat
  | .lit (.string bytes) => bytes.length + 1
  | .lit _ => 1
  | .nil => 1
  | .ptr d => uptoBulk d + 1
  | .slice elems spare => uptoBulkAll elems + uptoBulkAll spare + 1
  | .agg parts => uptoBulkAll parts + 1
  | .iface _ d => uptoBulk d + 1
  | .map entries => uptoBulkEntries entries + 1
  | .held _ => 1
def uptoBulkAll {H : Type} : List (DataW H) → Nat
  | [] => 0
  | d :: r => uptoBulk d + uptoBulkAll r
def uptoBulkEntries {H : Type} : List (Lit × DataW H) → Nat
  | [] => 0
  | x :: r => uptoBulkEntry x + uptoBulkEntries r
def uptoBulkEntry {H : Type} : Lit × DataW H → Nat
  | (.string bytes, d) => bytes.length + uptoBulk d + 1
  | (_, d) => uptoBulk d + 1
 end
def uptoSmall : (H : Type) → List (DataW H) → Bool := fun _ ds => decide (uptoBulkAll ds ≤ 1048576)
def OpenSpec.upto (s : _root_.Go.ChangeSpec) : _root_.Go.OpenSpec := { _root_.Go.OpenSpec.ofChange s with cond := some uptoSmall }

/-- 'clavigerlaw34.FrameTells', WHERE WHAT IT READS IS OF BULK AT MOST 1048576: true; the input reads as it did. -/
def frameTellsUptoRow : OpenClaim := { program := "ytapjmbjoklppnaagreatdoor", sum := "fc2804dadb8c1da963e2024ec140113488596b5142085f273034c25c4f7ed1d5", func := "claviger/clavigerlaw34.FrameTells", spec := "frameTells", inPlace := ["internal/bytealg.IndexByteString", "internal/bytealg.IndexString", "internal/abi.NoEscape", "internal/bytealg.MakeNoZero"], unfollowed := true, recurses := true, named := ["claviger/kind.lines", "claviger/table.lines", "internal/bytealg.MaxLen"], apart := false, laid := [("claviger/kind.lines", laid_claviger_kind_lines), ("claviger/table.lines", laid_claviger_table_lines)], narrowed := true }
def FrameTellsUptoSaid : Prop := frameTellsUptoRow.holds Tryz.pinned (OpenSpec.upto frameTellsSpec)

/-- 'clavigerlaw34.FrameParts', WHERE WHAT IT READS IS OF BULK AT MOST 1048576: true; the input reads as it did. -/
def framePartsUptoRow : OpenClaim := { program := "ytapjmbjoklppnaagreatdoor", sum := "fc2804dadb8c1da963e2024ec140113488596b5142085f273034c25c4f7ed1d5", func := "claviger/clavigerlaw34.FrameParts", spec := "frameParts", inPlace := ["internal/bytealg.IndexByteString", "internal/bytealg.IndexString", "internal/abi.NoEscape", "internal/bytealg.MakeNoZero"], unfollowed := true, recurses := true, named := ["claviger/kind.lines", "claviger/table.lines", "internal/bytealg.MaxLen"], apart := false, laid := [("claviger/kind.lines", laid_claviger_kind_lines), ("claviger/table.lines", laid_claviger_table_lines)], narrowed := true }
def FramePartsUptoSaid : Prop := framePartsUptoRow.holds Tryz.pinned (OpenSpec.upto framePartsSpec)

end Rows
end Go.Proofs.YtapjmbjoklppnaaGreatDoor
