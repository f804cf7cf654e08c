/-
  No cell of these rows narrows 'for every input' (looked for: loops, veiled, ifaces, maps, wideKeys, modest, calm, conditions, laid).
  DERIVED. THE GIVEN ROWS OF THIS SEAT. 9 by the template 'for every input the law returns true; each argument reads behind the call as it read before'; 0 by the template 'total and deterministic' (their statements: YtgbfdgopinnlbaaTotals.lean).
  GIVEN WITH THE SEED: the statements are not yours to turn. If you find one false, say at which input.
  Laid BY PROGRAM, IN A SANDBOX (cutbox-rows.mjs): the forced cells as the released guide's own fill.sh prints them over the translation abff725a2dc24467… (all of the seat's roots in one cut). By AI agents, Wed Nov 11 2026. No macro, syntax, notation, axiom, sorry.
-/
import Derived.Test.YtgbfdgopinnlbaaChecked
import GoSem.Claim
import GoSem.ClaimJoined
import GoSem.ClaimMapViews
import Derived.JoinedTies
import Derived.KernelRfl
namespace Go.Proofs.Ytgbfdgopinnlbaa
/- THE CELL 'sum', in the pinned program and in every row, IS THE sha256 OF THE DUMP (.gsa) THAT YtgbfdgopinnlbaaProg.lean LOADS. Nothing in Lean hashes anything: it is a label: what it is worth is what the hold of that sum in a sandbox is worth. -/
noncomputable def Try.pinned : Pinned := { name := "ytgbfdgopinnlbaa", sum := "abff725a2dc2446787244506f5f9f163351920e0fb1693ae96094aa53e5f5a43", checked := Try.checked }
namespace Rows
def none {H : Type} : Left H := { results := [], args := [] }

/-- 'clavigerlaw21.SetofTells': WHATEVER THE INPUT: true; the input reads as it did. -/
def setofTellsSpec : ChangeSpec := { name := "setofTells", fn := fun _ => fun
  | [d1, d2, d3] => { results := [.lit (.bool true)], args := [d1, d2, d3] }
  | _ => none }
def setofTellsRow : OpenClaim := { program := "ytgbfdgopinnlbaa", sum := "abff725a2dc2446787244506f5f9f163351920e0fb1693ae96094aa53e5f5a43", func := "claviger/clavigerlaw21.SetofTells", spec := "setofTells", unfollowed := true, recurses := true, apart := false }
def SetofTellsSaid : Prop := setofTellsRow.holds Try.pinned (OpenSpec.ofChange setofTellsSpec)

/-- ITS FALSE NEIGHBOUR: 'it returns false'. Refute it at one input. -/
def setofTellsWrong : ChangeSpec := { name := "setofTells", fn := fun _ => fun
  | [d1, d2, d3] => { results := [.lit (.bool false)], args := [d1, d2, d3] }
  | _ => none }
def SetofTellsWrongFalsely : Prop := setofTellsRow.holds Try.pinned (OpenSpec.ofChange setofTellsWrong)

/-- 'clavigerlaw21.SetofOrder': WHATEVER THE INPUT: true; the input reads as it did. -/
def setofOrderSpec : ChangeSpec := { name := "setofOrder", fn := fun _ => fun
  | [d1, d2, d3, d4] => { results := [.lit (.bool true)], args := [d1, d2, d3, d4] }
  | _ => none }
def setofOrderRow : OpenClaim := { program := "ytgbfdgopinnlbaa", sum := "abff725a2dc2446787244506f5f9f163351920e0fb1693ae96094aa53e5f5a43", func := "claviger/clavigerlaw21.SetofOrder", spec := "setofOrder", unfollowed := true, recurses := true, apart := false }
def SetofOrderSaid : Prop := setofOrderRow.holds Try.pinned (OpenSpec.ofChange setofOrderSpec)

/-- ITS FALSE NEIGHBOUR: 'it returns false'. Refute it at one input. -/
def setofOrderWrong : ChangeSpec := { name := "setofOrder", fn := fun _ => fun
  | [d1, d2, d3, d4] => { results := [.lit (.bool false)], args := [d1, d2, d3, d4] }
  | _ => none }
def SetofOrderWrongFalsely : Prop := setofOrderRow.holds Try.pinned (OpenSpec.ofChange setofOrderWrong)

/-- 'clavigerlaw35.DeriveTells': WHATEVER THE INPUT: true; the input reads as it did. -/
def deriveTellsSpec : ChangeSpec := { name := "deriveTells", fn := fun _ => fun
  | [d1, d2, d3] => { results := [.lit (.bool true)], args := [d1, d2, d3] }
  | _ => none }
def deriveTellsRow : OpenClaim := { program := "ytgbfdgopinnlbaa", sum := "abff725a2dc2446787244506f5f9f163351920e0fb1693ae96094aa53e5f5a43", func := "claviger/clavigerlaw35.DeriveTells", spec := "deriveTells", unfollowed := true, recurses := true, apart := false }
def DeriveTellsSaid : Prop := deriveTellsRow.holds Try.pinned (OpenSpec.ofChange deriveTellsSpec)

/-- ITS FALSE NEIGHBOUR: 'it returns false'. Refute it at one input. -/
def deriveTellsWrong : ChangeSpec := { name := "deriveTells", fn := fun _ => fun
  | [d1, d2, d3] => { results := [.lit (.bool false)], args := [d1, d2, d3] }
  | _ => none }
def DeriveTellsWrongFalsely : Prop := deriveTellsRow.holds Try.pinned (OpenSpec.ofChange deriveTellsWrong)

/-- 'clavigerlaw35.DeriveSizes': WHATEVER THE INPUT: true; the input reads as it did. -/
def deriveSizesSpec : ChangeSpec := { name := "deriveSizes", fn := fun _ => fun
  | [d] => { results := [.lit (.bool true)], args := [d] }
  | _ => none }
def deriveSizesRow : OpenClaim := { program := "ytgbfdgopinnlbaa", sum := "abff725a2dc2446787244506f5f9f163351920e0fb1693ae96094aa53e5f5a43", func := "claviger/clavigerlaw35.DeriveSizes", spec := "deriveSizes", unfollowed := true, recurses := true, apart := false }
def DeriveSizesSaid : Prop := deriveSizesRow.holds Try.pinned (OpenSpec.ofChange deriveSizesSpec)

/-- ITS FALSE NEIGHBOUR: 'it returns false'. Refute it at one input. -/
def deriveSizesWrong : ChangeSpec := { name := "deriveSizes", fn := fun _ => fun
  | [d] => { results := [.lit (.bool false)], args := [d] }
  | _ => none }
def DeriveSizesWrongFalsely : Prop := deriveSizesRow.holds Try.pinned (OpenSpec.ofChange deriveSizesWrong)

/-- 'clavigerlaw37.SealTells': WHATEVER THE INPUT: true; the input reads as it did. -/
def sealTellsSpec : ChangeSpec := { name := "sealTells", fn := fun _ => fun
  | [d1, d2, d3, d4, d5] => { results := [.lit (.bool true)], args := [d1, d2, d3, d4, d5] }
  | _ => none }
def sealTellsRow : OpenClaim := { program := "ytgbfdgopinnlbaa", sum := "abff725a2dc2446787244506f5f9f163351920e0fb1693ae96094aa53e5f5a43", func := "claviger/clavigerlaw37.SealTells", spec := "sealTells", unfollowed := true, recurses := true, apart := false }
def SealTellsSaid : Prop := sealTellsRow.holds Try.pinned (OpenSpec.ofChange sealTellsSpec)

/-- ITS FALSE NEIGHBOUR: 'it returns false'. Refute it at one input. -/
def sealTellsWrong : ChangeSpec := { name := "sealTells", fn := fun _ => fun
  | [d1, d2, d3, d4, d5] => { results := [.lit (.bool false)], args := [d1, d2, d3, d4, d5] }
  | _ => none }
def SealTellsWrongFalsely : Prop := sealTellsRow.holds Try.pinned (OpenSpec.ofChange sealTellsWrong)

/-- 'clavigerlaw37.SealHolds': WHATEVER THE INPUT: true; the input reads as it did. -/
def sealHoldsSpec : ChangeSpec := { name := "sealHolds", fn := fun _ => fun
  | [d1, d2, d3] => { results := [.lit (.bool true)], args := [d1, d2, d3] }
  | _ => none }
def sealHoldsRow : OpenClaim := { program := "ytgbfdgopinnlbaa", sum := "abff725a2dc2446787244506f5f9f163351920e0fb1693ae96094aa53e5f5a43", func := "claviger/clavigerlaw37.SealHolds", spec := "sealHolds", unfollowed := true, recurses := true, apart := false }
def SealHoldsSaid : Prop := sealHoldsRow.holds Try.pinned (OpenSpec.ofChange sealHoldsSpec)

/-- ITS FALSE NEIGHBOUR: 'it returns false'. Refute it at one input. -/
def sealHoldsWrong : ChangeSpec := { name := "sealHolds", fn := fun _ => fun
  | [d1, d2, d3] => { results := [.lit (.bool false)], args := [d1, d2, d3] }
  | _ => none }
def SealHoldsWrongFalsely : Prop := sealHoldsRow.holds Try.pinned (OpenSpec.ofChange sealHoldsWrong)

/-- 'clavigerlaw38.OpenTells': WHATEVER THE INPUT: true; the input reads as it did. -/
def openTellsSpec : ChangeSpec := { name := "openTells", fn := fun _ => fun
  | [d1, d2, d3, d4] => { results := [.lit (.bool true)], args := [d1, d2, d3, d4] }
  | _ => none }
def openTellsRow : OpenClaim := { program := "ytgbfdgopinnlbaa", sum := "abff725a2dc2446787244506f5f9f163351920e0fb1693ae96094aa53e5f5a43", func := "claviger/clavigerlaw38.OpenTells", spec := "openTells", unfollowed := true, recurses := true, apart := false }
def OpenTellsSaid : Prop := openTellsRow.holds Try.pinned (OpenSpec.ofChange openTellsSpec)

/-- ITS FALSE NEIGHBOUR: 'it returns false'. Refute it at one input. -/
def openTellsWrong : ChangeSpec := { name := "openTells", fn := fun _ => fun
  | [d1, d2, d3, d4] => { results := [.lit (.bool false)], args := [d1, d2, d3, d4] }
  | _ => none }
def OpenTellsWrongFalsely : Prop := openTellsRow.holds Try.pinned (OpenSpec.ofChange openTellsWrong)

/-- 'clavigerlaw38.OpenBack': WHATEVER THE INPUT: true; the input reads as it did. -/
def openBackSpec : ChangeSpec := { name := "openBack", fn := fun _ => fun
  | [d1, d2, d3, d4, d5] => { results := [.lit (.bool true)], args := [d1, d2, d3, d4, d5] }
  | _ => none }
def openBackRow : OpenClaim := { program := "ytgbfdgopinnlbaa", sum := "abff725a2dc2446787244506f5f9f163351920e0fb1693ae96094aa53e5f5a43", func := "claviger/clavigerlaw38.OpenBack", spec := "openBack", unfollowed := true, recurses := true, apart := false }
def OpenBackSaid : Prop := openBackRow.holds Try.pinned (OpenSpec.ofChange openBackSpec)

/-- ITS FALSE NEIGHBOUR: 'it returns false'. Refute it at one input. -/
def openBackWrong : ChangeSpec := { name := "openBack", fn := fun _ => fun
  | [d1, d2, d3, d4, d5] => { results := [.lit (.bool false)], args := [d1, d2, d3, d4, d5] }
  | _ => none }
def OpenBackWrongFalsely : Prop := openBackRow.holds Try.pinned (OpenSpec.ofChange openBackWrong)

/-- 'clavigerlaw38.OpenBinds': WHATEVER THE INPUT: true; the input reads as it did. -/
def openBindsSpec : ChangeSpec := { name := "openBinds", fn := fun _ => fun
  | [d1, d2, d3, d4, d5] => { results := [.lit (.bool true)], args := [d1, d2, d3, d4, d5] }
  | _ => none }
def openBindsRow : OpenClaim := { program := "ytgbfdgopinnlbaa", sum := "abff725a2dc2446787244506f5f9f163351920e0fb1693ae96094aa53e5f5a43", func := "claviger/clavigerlaw38.OpenBinds", spec := "openBinds", unfollowed := true, recurses := true, apart := false }
def OpenBindsSaid : Prop := openBindsRow.holds Try.pinned (OpenSpec.ofChange openBindsSpec)

/-- ITS FALSE NEIGHBOUR: 'it returns false'. Refute it at one input. -/
def openBindsWrong : ChangeSpec := { name := "openBinds", fn := fun _ => fun
  | [d1, d2, d3, d4, d5] => { results := [.lit (.bool false)], args := [d1, d2, d3, d4, d5] }
  | _ => none }
def OpenBindsWrongFalsely : Prop := openBindsRow.holds Try.pinned (OpenSpec.ofChange openBindsWrong)

/- THE SECOND FORM. 'bulk': how many values and letters a reading holds, each counted each time it is reached (what is shared counts as often as it is met; a slice's spare places count too). A statement '..UptoSaid' is the law's where the arguments, and the package variables that the reading takes, are together of bulk at most 1048576: NARROWER than '..Said'. Prove '..Said' where nothing that the law and all that it calls make is longer than what came in: it says more and counts as full. Else prove '..UptoSaid'. A law counts once. -/
mutual
def uptoBulk {H : Type} : DataW H → Nat
  | .lit (.string bytes) => bytes.length + 1
  | .lit _ => 1
  | .nil => 1
  | .ptr d => uptoBulk d + 1
  | .slice elems spare => uptoBulkAll elems + uptoBulkAll spare + 1
  | .agg parts => uptoBulkAll parts + 1
  | .iface _ d => uptoBulk d + 1
  | .map entries => uptoBulkEntries entries + 1
  | .held _ => 1
def uptoBulkAll {H : Type} : List (DataW H) → Nat
  | [] => 0
  | d :: r => uptoBulk d + uptoBulkAll r
def uptoBulkEntries {H : Type} : List (Lit × DataW H) → Nat
  | [] => 0
  | x :: r => uptoBulkEntry x + uptoBulkEntries r
def uptoBulkEntry {H : Type} : Lit × DataW H → Nat
  | (.string bytes, d) => bytes.length + uptoBulk d + 1
  | (_, d) => uptoBulk d + 1
 end
def uptoSmall : (H : Type) → List (DataW H) → Bool := fun _ ds => decide (uptoBulkAll ds ≤ 1048576)
def OpenSpec.upto (s : _root_.Go.ChangeSpec) : _root_.Go.OpenSpec := { _root_.Go.OpenSpec.ofChange s with cond := some uptoSmall }

/-- 'clavigerlaw21.SetofTells', WHERE WHAT IT READS IS OF BULK AT MOST 1048576: true; the input reads as it did. -/
def setofTellsUptoRow : OpenClaim := { program := "ytgbfdgopinnlbaa", sum := "abff725a2dc2446787244506f5f9f163351920e0fb1693ae96094aa53e5f5a43", func := "claviger/clavigerlaw21.SetofTells", spec := "setofTells", unfollowed := true, recurses := true, apart := false, narrowed := true }
def SetofTellsUptoSaid : Prop := setofTellsUptoRow.holds Try.pinned (OpenSpec.upto setofTellsSpec)

/-- 'clavigerlaw21.SetofOrder', WHERE WHAT IT READS IS OF BULK AT MOST 1048576: true; the input reads as it did. -/
def setofOrderUptoRow : OpenClaim := { program := "ytgbfdgopinnlbaa", sum := "abff725a2dc2446787244506f5f9f163351920e0fb1693ae96094aa53e5f5a43", func := "claviger/clavigerlaw21.SetofOrder", spec := "setofOrder", unfollowed := true, recurses := true, apart := false, narrowed := true }
def SetofOrderUptoSaid : Prop := setofOrderUptoRow.holds Try.pinned (OpenSpec.upto setofOrderSpec)

/-- 'clavigerlaw35.DeriveTells', WHERE WHAT IT READS IS OF BULK AT MOST 1048576: true; the input reads as it did. -/
def deriveTellsUptoRow : OpenClaim := { program := "ytgbfdgopinnlbaa", sum := "abff725a2dc2446787244506f5f9f163351920e0fb1693ae96094aa53e5f5a43", func := "claviger/clavigerlaw35.DeriveTells", spec := "deriveTells", unfollowed := true, recurses := true, apart := false, narrowed := true }
def DeriveTellsUptoSaid : Prop := deriveTellsUptoRow.holds Try.pinned (OpenSpec.upto deriveTellsSpec)

/-- 'clavigerlaw35.DeriveSizes', WHERE WHAT IT READS IS OF BULK AT MOST 1048576: true; the input reads as it did. -/
def deriveSizesUptoRow : OpenClaim := { program := "ytgbfdgopinnlbaa", sum := "abff725a2dc2446787244506f5f9f163351920e0fb1693ae96094aa53e5f5a43", func := "claviger/clavigerlaw35.DeriveSizes", spec := "deriveSizes", unfollowed := true, recurses := true, apart := false, narrowed := true }
def DeriveSizesUptoSaid : Prop := deriveSizesUptoRow.holds Try.pinned (OpenSpec.upto deriveSizesSpec)

/-- 'clavigerlaw37.SealTells', WHERE WHAT IT READS IS OF BULK AT MOST 1048576: true; the input reads as it did. -/
def sealTellsUptoRow : OpenClaim := { program := "ytgbfdgopinnlbaa", sum := "abff725a2dc2446787244506f5f9f163351920e0fb1693ae96094aa53e5f5a43", func := "claviger/clavigerlaw37.SealTells", spec := "sealTells", unfollowed := true, recurses := true, apart := false, narrowed := true }
def SealTellsUptoSaid : Prop := sealTellsUptoRow.holds Try.pinned (OpenSpec.upto sealTellsSpec)

/-- 'clavigerlaw37.SealHolds', WHERE WHAT IT READS IS OF BULK AT MOST 1048576: true; the input reads as it did. -/
def sealHoldsUptoRow : OpenClaim := { program := "ytgbfdgopinnlbaa", sum := "abff725a2dc2446787244506f5f9f163351920e0fb1693ae96094aa53e5f5a43", func := "claviger/clavigerlaw37.SealHolds", spec := "sealHolds", unfollowed := true, recurses := true, apart := false, narrowed := true }
def SealHoldsUptoSaid : Prop := sealHoldsUptoRow.holds Try.pinned (OpenSpec.upto sealHoldsSpec)

/-- 'clavigerlaw38.OpenTells', WHERE WHAT IT READS IS OF BULK AT MOST 1048576: true; the input reads as it did. -/
def openTellsUptoRow : OpenClaim := { program := "ytgbfdgopinnlbaa", sum := "abff725a2dc2446787244506f5f9f163351920e0fb1693ae96094aa53e5f5a43", func := "claviger/clavigerlaw38.OpenTells", spec := "openTells", unfollowed := true, recurses := true, apart := false, narrowed := true }
def OpenTellsUptoSaid : Prop := openTellsUptoRow.holds Try.pinned (OpenSpec.upto openTellsSpec)

/-- 'clavigerlaw38.OpenBack', WHERE WHAT IT READS IS OF BULK AT MOST 1048576: true; the input reads as it did. -/
def openBackUptoRow : OpenClaim := { program := "ytgbfdgopinnlbaa", sum := "abff725a2dc2446787244506f5f9f163351920e0fb1693ae96094aa53e5f5a43", func := "claviger/clavigerlaw38.OpenBack", spec := "openBack", unfollowed := true, recurses := true, apart := false, narrowed := true }
def OpenBackUptoSaid : Prop := openBackUptoRow.holds Try.pinned (OpenSpec.upto openBackSpec)

/-- 'clavigerlaw38.OpenBinds', WHERE WHAT IT READS IS OF BULK AT MOST 1048576: true; the input reads as it did. -/
def openBindsUptoRow : OpenClaim := { program := "ytgbfdgopinnlbaa", sum := "abff725a2dc2446787244506f5f9f163351920e0fb1693ae96094aa53e5f5a43", func := "claviger/clavigerlaw38.OpenBinds", spec := "openBinds", unfollowed := true, recurses := true, apart := false, narrowed := true }
def OpenBindsUptoSaid : Prop := openBindsUptoRow.holds Try.pinned (OpenSpec.upto openBindsSpec)

end Rows
end Go.Proofs.Ytgbfdgopinnlbaa
