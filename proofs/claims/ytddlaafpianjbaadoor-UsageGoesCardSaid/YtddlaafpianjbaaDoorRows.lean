/-
  NARROWER THAN 'FOR EVERY INPUT', by the rows' own cells (each row's printed sentence says how): UsageTells: laid · UsageGoes: laid.
  DERIVED. THE GIVEN ROWS OF THIS SEAT. 2 by the template 'for every input the law returns true; each argument reads behind the call as it read before'; 0 by the template 'total and deterministic' (their statements: YtddlaafpianjbaaDoorTotals.lean).
  GIVEN WITH THE SEED: the statements are not yours to turn. If you find one false, say at which input.
  Laid BY PROGRAM, IN A SANDBOX (cutbox-rows.mjs): the forced cells as the released guide's own fill.sh prints them over the translation 789428e36eb8228c… (all of the seat's roots in one cut). By AI agents, Wed Nov 11 2026. No macro, syntax, notation, axiom, sorry.
-/
import Derived.Test.YtddlaafpianjbaaDoorChecked
import GoSem.Claim
import GoSem.ClaimJoined
import GoSem.ClaimMapViews
import Derived.JoinedTies
import Derived.KernelRfl
namespace Go.Proofs.YtddlaafpianjbaaDoor
/- THE CELL 'sum', in the pinned program and in every row, IS THE sha256 OF THE DUMP (.gsa) THAT YtddlaafpianjbaaDoorProg.lean LOADS. Nothing in Lean hashes anything: it is a label: what it is worth is what the hold of that sum in a sandbox is worth. -/
noncomputable def Tryd.pinned : Pinned := { name := "ytddlaafpianjbaadoor", sum := "789428e36eb8228ccf34b527126faa40d2f0a27bfffcb847f58ff06962601a8e", checked := Tryd.checked }
namespace Rows
def none {H : Type} : Left H := { results := [], args := [] }

/- WHAT THE LISTED PACKAGE-LEVEL VARIABLES READ AS WHEN THE CALL BEGINS. Each datum BY PROGRAM (the guide's laid-datum.mjs) off the statement by which the dump's own 'gosem.cut.vars' lays the variable. In a bare row this is a premise. The card (YtddlaafpianjbaaDoorCards.lean) ties it to the program's text. -/
def laid_claviger_table_lines {H : Type} : DataW H := .agg [.agg [.lit (.string [66, 48]), .lit (.string [65, 84]), .lit (.string [78, 88])], .agg [.lit (.string [68, 48]), .lit (.string [65, 84]), .lit (.string [66, 68, 69, 78])], .agg [.lit (.string [68, 49]), .lit (.string [69]), .lit (.string [66, 68, 69, 78])], .agg [.lit (.string [75, 48]), .lit (.string [65, 84]), .lit (.string [66, 68, 69, 78])], .agg [.lit (.string [75, 49]), .lit (.string [65, 84]), .lit (.string [66, 68, 69, 78])], .agg [.lit (.string [77, 51]), .lit (.string [84]), .lit (.string [67, 71, 78, 86])], .agg [.lit (.string [77, 54]), .lit (.string [65, 84]), .lit (.string [67, 71, 78, 86])], .agg [.lit (.string [77, 55]), .lit (.string [72]), .lit (.string [67, 71, 78, 86])], .agg [.lit (.string [80, 48]), .lit (.string [65, 84]), .lit (.string [66, 68, 69, 78])], .agg [.lit (.string [83, 48]), .lit (.string [69]), .lit (.string [78, 83, 84, 86])], .agg [.lit (.string []), .lit (.string [65, 69, 72, 84]), .lit (.string [66, 67, 68, 69, 71, 78, 83, 84, 86, 88])]]

/-- 'clavigerlaw41.UsageTells': WHATEVER THE INPUT: true; the input reads as it did. -/
def usageTellsSpec : ChangeSpec := { name := "usageTells", fn := fun _ => fun
  | [d1, d2, d3] => { results := [.lit (.bool true)], args := [d1, d2, d3] }
  | _ => none }
def usageTellsRow : OpenClaim := { program := "ytddlaafpianjbaadoor", sum := "789428e36eb8228ccf34b527126faa40d2f0a27bfffcb847f58ff06962601a8e", func := "claviger/clavigerlaw41.UsageTells", spec := "usageTells", unfollowed := true, recurses := true, named := ["claviger/table.lines"], apart := false, laid := [("claviger/table.lines", laid_claviger_table_lines)] }
def UsageTellsSaid : Prop := usageTellsRow.holds Tryd.pinned (OpenSpec.ofChange usageTellsSpec)

/-- ITS FALSE NEIGHBOUR: 'it returns false'. Refute it at one input. -/
def usageTellsWrong : ChangeSpec := { name := "usageTells", fn := fun _ => fun
  | [d1, d2, d3] => { results := [.lit (.bool false)], args := [d1, d2, d3] }
  | _ => none }
def UsageTellsWrongFalsely : Prop := usageTellsRow.holds Tryd.pinned (OpenSpec.ofChange usageTellsWrong)

/-- 'clavigerlaw41.UsageGoes': WHATEVER THE INPUT: true; the input reads as it did. -/
def usageGoesSpec : ChangeSpec := { name := "usageGoes", fn := fun _ => fun
  | [d] => { results := [.lit (.bool true)], args := [d] }
  | _ => none }
def usageGoesRow : OpenClaim := { program := "ytddlaafpianjbaadoor", sum := "789428e36eb8228ccf34b527126faa40d2f0a27bfffcb847f58ff06962601a8e", func := "claviger/clavigerlaw41.UsageGoes", spec := "usageGoes", unfollowed := true, recurses := true, named := ["claviger/table.lines"], apart := false, laid := [("claviger/table.lines", laid_claviger_table_lines)] }
def UsageGoesSaid : Prop := usageGoesRow.holds Tryd.pinned (OpenSpec.ofChange usageGoesSpec)

/-- ITS FALSE NEIGHBOUR: 'it returns false'. Refute it at one input. -/
def usageGoesWrong : ChangeSpec := { name := "usageGoes", fn := fun _ => fun
  | [d] => { results := [.lit (.bool false)], args := [d] }
  | _ => none }
def UsageGoesWrongFalsely : Prop := usageGoesRow.holds Tryd.pinned (OpenSpec.ofChange usageGoesWrong)

/- THE SECOND FORM. 'bulk': how many values and letters a reading holds, each counted each time it is reached (what is shared counts as often as it is met; a slice's spare places count too). A statement '..UptoSaid' is the law's where the arguments, and the package variables that the reading takes, are together of bulk at most 1048576: NARROWER than '..Said'. Prove '..Said' where nothing that the law and all that it calls make is longer than what came in: it says more and counts as full. Else prove '..UptoSaid'. A law counts once. -/
mutual
def uptoBulk {H : Type} : DataW H → Nat
  | .lit (.string bytes) => bytes.length + 1
  | .lit _ => 1
  | .nil => 1
  | .ptr d => uptoBulk d + 1
  | .slice elems spare => uptoBulkAll elems + uptoBulkAll spare + 1
  | .agg parts => uptoBulkAll parts + 1
  | .iface _ d => uptoBulk d + 1
  | .map entries => uptoBulkEntries entries + 1
  | .held _ => 1
def uptoBulkAll {H : Type} : List (DataW H) → Nat
  | [] => 0
  | d :: r => uptoBulk d + uptoBulkAll r
def uptoBulkEntries {H : Type} : List (Lit × DataW H) → Nat
  | [] => 0
  | x :: r => uptoBulkEntry x + uptoBulkEntries r
def uptoBulkEntry {H : Type} : Lit × DataW H → Nat
  | (.string bytes, d) => bytes.length + uptoBulk d + 1
  | (_, d) => uptoBulk d + 1
 end
def uptoSmall : (H : Type) → List (DataW H) → Bool := fun _ ds => decide (uptoBulkAll ds ≤ 1048576)
def OpenSpec.upto (s : _root_.Go.ChangeSpec) : _root_.Go.OpenSpec := { _root_.Go.OpenSpec.ofChange s with cond := some uptoSmall }

/-- 'clavigerlaw41.UsageTells', WHERE WHAT IT READS IS OF BULK AT MOST 1048576: true; the input reads as it did. -/
def usageTellsUptoRow : OpenClaim := { program := "ytddlaafpianjbaadoor", sum := "789428e36eb8228ccf34b527126faa40d2f0a27bfffcb847f58ff06962601a8e", func := "claviger/clavigerlaw41.UsageTells", spec := "usageTells", unfollowed := true, recurses := true, named := ["claviger/table.lines"], apart := false, laid := [("claviger/table.lines", laid_claviger_table_lines)], narrowed := true }
def UsageTellsUptoSaid : Prop := usageTellsUptoRow.holds Tryd.pinned (OpenSpec.upto usageTellsSpec)

/-- 'clavigerlaw41.UsageGoes', WHERE WHAT IT READS IS OF BULK AT MOST 1048576: true; the input reads as it did. -/
def usageGoesUptoRow : OpenClaim := { program := "ytddlaafpianjbaadoor", sum := "789428e36eb8228ccf34b527126faa40d2f0a27bfffcb847f58ff06962601a8e", func := "claviger/clavigerlaw41.UsageGoes", spec := "usageGoes", unfollowed := true, recurses := true, named := ["claviger/table.lines"], apart := false, laid := [("claviger/table.lines", laid_claviger_table_lines)], narrowed := true }
def UsageGoesUptoSaid : Prop := usageGoesUptoRow.holds Tryd.pinned (OpenSpec.upto usageGoesSpec)

end Rows
end Go.Proofs.YtddlaafpianjbaaDoor
