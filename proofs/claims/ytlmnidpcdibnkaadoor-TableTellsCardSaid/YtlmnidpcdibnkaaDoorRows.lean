/-
  NARROWER THAN 'FOR EVERY INPUT', by the rows' own cells (each row's printed sentence says how): TableTells: laid · TableGoes: laid · HeaderTells: laid · HeaderBack: laid.
  DERIVED. THE GIVEN ROWS OF THIS SEAT. 4 by the template 'for every input the law returns true; each argument reads behind the call as it read before'; 0 by the template 'total and deterministic' (their statements: YtlmnidpcdibnkaaDoorTotals.lean).
  GIVEN WITH THE SEED: the statements are not yours to turn. If you find one false, say at which input.
  Laid BY PROGRAM, IN A SANDBOX (cutbox-rows.mjs): the forced cells as the released guide's own fill.sh prints them over the translation 2710d7b2756c673a… (all of the seat's roots in one cut). By AI agents, Wed Nov 11 2026. No macro, syntax, notation, axiom, sorry.
-/
import Derived.Test.YtlmnidpcdibnkaaDoorChecked
import GoSem.Claim
import GoSem.ClaimJoined
import GoSem.ClaimMapViews
import Derived.JoinedTies
import Derived.KernelRfl
namespace Go.Proofs.YtlmnidpcdibnkaaDoor
/- THE CELL 'sum', in the pinned program and in every row, IS THE sha256 OF THE DUMP (.gsa) THAT YtlmnidpcdibnkaaDoorProg.lean LOADS. Nothing in Lean hashes anything: it is a label: what it is worth is what the hold of that sum in a sandbox is worth. -/
noncomputable def Tryd.pinned : Pinned := { name := "ytlmnidpcdibnkaadoor", sum := "2710d7b2756c673a74f0738e3f4c6d904b8038ddd37291023974434e8d6de128", checked := Tryd.checked }
namespace Rows
def none {H : Type} : Left H := { results := [], args := [] }

/- WHAT THE LISTED PACKAGE-LEVEL VARIABLES READ AS WHEN THE CALL BEGINS. Each datum BY PROGRAM (the guide's laid-datum.mjs) off the statement by which the dump's own 'gosem.cut.vars' lays the variable. In a bare row this is a premise. The card (YtlmnidpcdibnkaaDoorCards.lean) ties it to the program's text. -/
def laid_claviger_table_lines {H : Type} : DataW H := .agg [.agg [.lit (.string [66, 48]), .lit (.string [65, 84]), .lit (.string [78, 88])], .agg [.lit (.string [68, 48]), .lit (.string [65, 84]), .lit (.string [66, 68, 69, 78])], .agg [.lit (.string [68, 49]), .lit (.string [69]), .lit (.string [66, 68, 69, 78])], .agg [.lit (.string [75, 48]), .lit (.string [65, 84]), .lit (.string [66, 68, 69, 78])], .agg [.lit (.string [75, 49]), .lit (.string [65, 84]), .lit (.string [66, 68, 69, 78])], .agg [.lit (.string [77, 51]), .lit (.string [84]), .lit (.string [67, 71, 78, 86])], .agg [.lit (.string [77, 54]), .lit (.string [65, 84]), .lit (.string [67, 71, 78, 86])], .agg [.lit (.string [77, 55]), .lit (.string [72]), .lit (.string [67, 71, 78, 86])], .agg [.lit (.string [80, 48]), .lit (.string [65, 84]), .lit (.string [66, 68, 69, 78])], .agg [.lit (.string [83, 48]), .lit (.string [69]), .lit (.string [78, 83, 84, 86])], .agg [.lit (.string []), .lit (.string [65, 69, 72, 84]), .lit (.string [66, 67, 68, 69, 71, 78, 83, 84, 86, 88])]]
def laid_claviger_kind_lines {H : Type} : DataW H := .agg [.agg [.lit (.string [65, 69, 83, 45, 49, 50, 56]), .lit (.int .i64 16), .lit (.string [65]), .lit (.int .i64 0), .lit (.string [50, 46, 49, 54, 46, 56, 52, 48, 46, 49, 46, 49, 48, 49, 46, 51, 46, 52, 46, 49, 46, 49])], .agg [.lit (.string [65, 69, 83, 45, 49, 57, 50]), .lit (.int .i64 24), .lit (.string [65]), .lit (.int .i64 0), .lit (.string [50, 46, 49, 54, 46, 56, 52, 48, 46, 49, 46, 49, 48, 49, 46, 51, 46, 52, 46, 49, 46, 50, 49])], .agg [.lit (.string [65, 69, 83, 45, 50, 53, 54]), .lit (.int .i64 32), .lit (.string [65]), .lit (.int .i64 0), .lit (.string [50, 46, 49, 54, 46, 56, 52, 48, 46, 49, 46, 49, 48, 49, 46, 51, 46, 52, 46, 49, 46, 52, 49])], .agg [.lit (.string [84, 68, 69, 83, 45, 50]), .lit (.int .i64 16), .lit (.string [84]), .lit (.int .i64 0), .lit (.string [49, 46, 50, 46, 56, 52, 48, 46, 49, 49, 51, 53, 52, 57, 46, 51, 46, 55])], .agg [.lit (.string [84, 68, 69, 83, 45, 51]), .lit (.int .i64 24), .lit (.string [84]), .lit (.int .i64 0), .lit (.string [49, 46, 50, 46, 56, 52, 48, 46, 49, 49, 51, 53, 52, 57, 46, 51, 46, 55])], .agg [.lit (.string [72, 77, 65, 67, 45, 83, 72, 65, 50, 53, 54]), .lit (.int .i64 32), .lit (.string [72]), .lit (.int .i64 0), .lit (.string [49, 46, 50, 46, 56, 52, 48, 46, 49, 49, 51, 53, 52, 57, 46, 50, 46, 57])], .agg [.lit (.string [72, 77, 65, 67, 45, 83, 72, 65, 53, 49, 50]), .lit (.int .i64 64), .lit (.string [72]), .lit (.int .i64 0), .lit (.string [49, 46, 50, 46, 56, 52, 48, 46, 49, 49, 51, 53, 52, 57, 46, 50, 46, 49, 49])], .agg [.lit (.string [69, 67, 45, 80, 50, 50, 52]), .lit (.int .i64 28), .lit (.string [69]), .lit (.int .i64 1), .lit (.string [49, 46, 50, 46, 56, 52, 48, 46, 49, 48, 48, 52, 53, 46, 50, 46, 49])], .agg [.lit (.string [69, 67, 45, 80, 50, 53, 54]), .lit (.int .i64 32), .lit (.string [69]), .lit (.int .i64 2), .lit (.string [49, 46, 50, 46, 56, 52, 48, 46, 49, 48, 48, 52, 53, 46, 50, 46, 49])], .agg [.lit (.string [69, 67, 45, 80, 51, 56, 52]), .lit (.int .i64 48), .lit (.string [69]), .lit (.int .i64 3), .lit (.string [49, 46, 50, 46, 56, 52, 48, 46, 49, 48, 48, 52, 53, 46, 50, 46, 49])], .agg [.lit (.string [69, 67, 45, 80, 53, 50, 49]), .lit (.int .i64 66), .lit (.string [69]), .lit (.int .i64 4), .lit (.string [49, 46, 50, 46, 56, 52, 48, 46, 49, 48, 48, 52, 53, 46, 50, 46, 49])]]

/-- 'clavigerlaw30.TableTells': WHATEVER THE INPUT: true; the input reads as it did. -/
def tableTellsSpec : ChangeSpec := { name := "tableTells", fn := fun _ => fun
  | [d1, d2] => { results := [.lit (.bool true)], args := [d1, d2] }
  | _ => none }
def tableTellsRow : OpenClaim := { program := "ytlmnidpcdibnkaadoor", sum := "2710d7b2756c673a74f0738e3f4c6d904b8038ddd37291023974434e8d6de128", func := "claviger/clavigerlaw30.TableTells", spec := "tableTells", inPlace := ["internal/bytealg.IndexByteString", "internal/bytealg.IndexString"], named := ["claviger/table.lines", "internal/bytealg.MaxLen"], apart := false, laid := [("claviger/table.lines", laid_claviger_table_lines)] }
def TableTellsSaid : Prop := tableTellsRow.holds Tryd.pinned (OpenSpec.ofChange tableTellsSpec)

/-- ITS FALSE NEIGHBOUR: 'it returns false'. Refute it at one input. -/
def tableTellsWrong : ChangeSpec := { name := "tableTells", fn := fun _ => fun
  | [d1, d2] => { results := [.lit (.bool false)], args := [d1, d2] }
  | _ => none }
def TableTellsWrongFalsely : Prop := tableTellsRow.holds Tryd.pinned (OpenSpec.ofChange tableTellsWrong)

/-- 'clavigerlaw30.TableGoes': WHATEVER THE INPUT: true; the input reads as it did. -/
def tableGoesSpec : ChangeSpec := { name := "tableGoes", fn := fun _ => fun
  | [d1, d2, d3] => { results := [.lit (.bool true)], args := [d1, d2, d3] }
  | _ => none }
def tableGoesRow : OpenClaim := { program := "ytlmnidpcdibnkaadoor", sum := "2710d7b2756c673a74f0738e3f4c6d904b8038ddd37291023974434e8d6de128", func := "claviger/clavigerlaw30.TableGoes", spec := "tableGoes", inPlace := ["internal/bytealg.IndexByteString", "internal/bytealg.IndexString"], named := ["claviger/table.lines", "internal/bytealg.MaxLen"], apart := false, laid := [("claviger/table.lines", laid_claviger_table_lines)] }
def TableGoesSaid : Prop := tableGoesRow.holds Tryd.pinned (OpenSpec.ofChange tableGoesSpec)

/-- ITS FALSE NEIGHBOUR: 'it returns false'. Refute it at one input. -/
def tableGoesWrong : ChangeSpec := { name := "tableGoes", fn := fun _ => fun
  | [d1, d2, d3] => { results := [.lit (.bool false)], args := [d1, d2, d3] }
  | _ => none }
def TableGoesWrongFalsely : Prop := tableGoesRow.holds Tryd.pinned (OpenSpec.ofChange tableGoesWrong)

/-- 'clavigerlaw31.HeaderTells': WHATEVER THE INPUT: true; the input reads as it did. -/
def headerTellsSpec : ChangeSpec := { name := "headerTells", fn := fun _ => fun
  | [d1, d2] => { results := [.lit (.bool true)], args := [d1, d2] }
  | _ => none }
def headerTellsRow : OpenClaim := { program := "ytlmnidpcdibnkaadoor", sum := "2710d7b2756c673a74f0738e3f4c6d904b8038ddd37291023974434e8d6de128", func := "claviger/clavigerlaw31.HeaderTells", spec := "headerTells", inPlace := ["internal/bytealg.IndexByteString", "internal/bytealg.IndexString"], named := ["claviger/kind.lines", "claviger/table.lines", "internal/bytealg.MaxLen"], apart := false, laid := [("claviger/kind.lines", laid_claviger_kind_lines), ("claviger/table.lines", laid_claviger_table_lines)] }
def HeaderTellsSaid : Prop := headerTellsRow.holds Tryd.pinned (OpenSpec.ofChange headerTellsSpec)

/-- ITS FALSE NEIGHBOUR: 'it returns false'. Refute it at one input. -/
def headerTellsWrong : ChangeSpec := { name := "headerTells", fn := fun _ => fun
  | [d1, d2] => { results := [.lit (.bool false)], args := [d1, d2] }
  | _ => none }
def HeaderTellsWrongFalsely : Prop := headerTellsRow.holds Tryd.pinned (OpenSpec.ofChange headerTellsWrong)

/-- 'clavigerlaw31.HeaderBack': WHATEVER THE INPUT: true; the input reads as it did. -/
def headerBackSpec : ChangeSpec := { name := "headerBack", fn := fun _ => fun
  | [d1, d2, d3] => { results := [.lit (.bool true)], args := [d1, d2, d3] }
  | _ => none }
def headerBackRow : OpenClaim := { program := "ytlmnidpcdibnkaadoor", sum := "2710d7b2756c673a74f0738e3f4c6d904b8038ddd37291023974434e8d6de128", func := "claviger/clavigerlaw31.HeaderBack", spec := "headerBack", inPlace := ["internal/bytealg.IndexByteString", "internal/bytealg.IndexString"], named := ["claviger/kind.lines", "claviger/table.lines", "internal/bytealg.MaxLen"], apart := false, laid := [("claviger/kind.lines", laid_claviger_kind_lines), ("claviger/table.lines", laid_claviger_table_lines)] }
def HeaderBackSaid : Prop := headerBackRow.holds Tryd.pinned (OpenSpec.ofChange headerBackSpec)

/-- ITS FALSE NEIGHBOUR: 'it returns false'. Refute it at one input. -/
def headerBackWrong : ChangeSpec := { name := "headerBack", fn := fun _ => fun
  | [d1, d2, d3] => { results := [.lit (.bool false)], args := [d1, d2, d3] }
  | _ => none }
def HeaderBackWrongFalsely : Prop := headerBackRow.holds Tryd.pinned (OpenSpec.ofChange headerBackWrong)

/- THE SECOND FORM. 'bulk': how many values and letters a reading holds, each counted each time it is reached (what is shared counts as often as it is met; a slice's spare places count too). A statement '..UptoSaid' is the law's where the arguments, and the package variables that the reading takes, are together of bulk at most 1048576: NARROWER than '..Said'. Prove '..Said' where nothing that the law and all that it calls make is longer than what came in: it says more and counts as full. Else prove '..UptoSaid'. A law counts once. -/
mutual
def uptoBulk {H : Type} : DataW H → Nat
  | .lit (.string bytes) => bytes.length + 1
  | .lit _ => 1
  | .nil => 1
  | .ptr d => uptoBulk d + 1
  | .slice elems spare => uptoBulkAll elems + uptoBulkAll spare + 1
  | .agg parts => uptoBulkAll parts + 1
  | .iface _ d => uptoBulk d + 1
  | .map entries => uptoBulkEntries entries + 1
  | .held _ => 1
def uptoBulkAll {H : Type} : List (DataW H) → Nat
  | [] => 0
  | d :: r => uptoBulk d + uptoBulkAll r
def uptoBulkEntries {H : Type} : List (Lit × DataW H) → Nat
  | [] => 0
  | x :: r => uptoBulkEntry x + uptoBulkEntries r
def uptoBulkEntry {H : Type} : Lit × DataW H → Nat
  | (.string bytes, d) => bytes.length + uptoBulk d + 1
  | (_, d) => uptoBulk d + 1
 end
def uptoSmall : (H : Type) → List (DataW H) → Bool := fun _ ds => decide (uptoBulkAll ds ≤ 1048576)
def OpenSpec.upto (s : _root_.Go.ChangeSpec) : _root_.Go.OpenSpec := { _root_.Go.OpenSpec.ofChange s with cond := some uptoSmall }

/-- 'clavigerlaw30.TableTells', WHERE WHAT IT READS IS OF BULK AT MOST 1048576: true; the input reads as it did. -/
def tableTellsUptoRow : OpenClaim := { program := "ytlmnidpcdibnkaadoor", sum := "2710d7b2756c673a74f0738e3f4c6d904b8038ddd37291023974434e8d6de128", func := "claviger/clavigerlaw30.TableTells", spec := "tableTells", inPlace := ["internal/bytealg.IndexByteString", "internal/bytealg.IndexString"], named := ["claviger/table.lines", "internal/bytealg.MaxLen"], apart := false, laid := [("claviger/table.lines", laid_claviger_table_lines)], narrowed := true }
def TableTellsUptoSaid : Prop := tableTellsUptoRow.holds Tryd.pinned (OpenSpec.upto tableTellsSpec)

/-- 'clavigerlaw30.TableGoes', WHERE WHAT IT READS IS OF BULK AT MOST 1048576: true; the input reads as it did. -/
def tableGoesUptoRow : OpenClaim := { program := "ytlmnidpcdibnkaadoor", sum := "2710d7b2756c673a74f0738e3f4c6d904b8038ddd37291023974434e8d6de128", func := "claviger/clavigerlaw30.TableGoes", spec := "tableGoes", inPlace := ["internal/bytealg.IndexByteString", "internal/bytealg.IndexString"], named := ["claviger/table.lines", "internal/bytealg.MaxLen"], apart := false, laid := [("claviger/table.lines", laid_claviger_table_lines)], narrowed := true }
def TableGoesUptoSaid : Prop := tableGoesUptoRow.holds Tryd.pinned (OpenSpec.upto tableGoesSpec)

/-- 'clavigerlaw31.HeaderTells', WHERE WHAT IT READS IS OF BULK AT MOST 1048576: true; the input reads as it did. -/
def headerTellsUptoRow : OpenClaim := { program := "ytlmnidpcdibnkaadoor", sum := "2710d7b2756c673a74f0738e3f4c6d904b8038ddd37291023974434e8d6de128", func := "claviger/clavigerlaw31.HeaderTells", spec := "headerTells", inPlace := ["internal/bytealg.IndexByteString", "internal/bytealg.IndexString"], named := ["claviger/kind.lines", "claviger/table.lines", "internal/bytealg.MaxLen"], apart := false, laid := [("claviger/kind.lines", laid_claviger_kind_lines), ("claviger/table.lines", laid_claviger_table_lines)], narrowed := true }
def HeaderTellsUptoSaid : Prop := headerTellsUptoRow.holds Tryd.pinned (OpenSpec.upto headerTellsSpec)

/-- 'clavigerlaw31.HeaderBack', WHERE WHAT IT READS IS OF BULK AT MOST 1048576: true; the input reads as it did. -/
def headerBackUptoRow : OpenClaim := { program := "ytlmnidpcdibnkaadoor", sum := "2710d7b2756c673a74f0738e3f4c6d904b8038ddd37291023974434e8d6de128", func := "claviger/clavigerlaw31.HeaderBack", spec := "headerBack", inPlace := ["internal/bytealg.IndexByteString", "internal/bytealg.IndexString"], named := ["claviger/kind.lines", "claviger/table.lines", "internal/bytealg.MaxLen"], apart := false, laid := [("claviger/kind.lines", laid_claviger_kind_lines), ("claviger/table.lines", laid_claviger_table_lines)], narrowed := true }
def HeaderBackUptoSaid : Prop := headerBackUptoRow.holds Tryd.pinned (OpenSpec.upto headerBackSpec)

end Rows
end Go.Proofs.YtlmnidpcdibnkaaDoor
