/-
  No cell of these rows narrows 'for every input' (looked for: loops, veiled, ifaces, maps, wideKeys, modest, calm, conditions, laid).
  DERIVED. THE GIVEN ROWS OF THIS SEAT. 7 by the template 'for every input the law returns true; each argument reads behind the call as it read before'; 0 by the template 'total and deterministic' (their statements: YtihpndfjcgodiaaTotals.lean).
  GIVEN WITH THE SEED: the statements are not yours to turn. If you find one false, say at which input.
  Laid BY PROGRAM, IN A SANDBOX (cutbox-rows.mjs): the forced cells as the released guide's own fill.sh prints them over the translation 9c999cce522aadd4… (all of the seat's roots in one cut). By AI agents, Wed Nov 11 2026. No macro, syntax, notation, axiom, sorry.
-/
import Derived.Test.YtihpndfjcgodiaaChecked
import GoSem.Claim
import GoSem.ClaimJoined
import GoSem.ClaimMapViews
import Derived.JoinedTies
import Derived.KernelRfl
namespace Go.Proofs.Ytihpndfjcgodiaa
/- THE CELL 'sum', in the pinned program and in every row, IS THE sha256 OF THE DUMP (.gsa) THAT YtihpndfjcgodiaaProg.lean LOADS. Nothing in Lean hashes anything: it is a label: what it is worth is what the hold of that sum in a sandbox is worth. -/
noncomputable def Try.pinned : Pinned := { name := "ytihpndfjcgodiaa", sum := "9c999cce522aadd42afc2161f2409b35c0da0b0f1f855c6158bc3ac4ea72b904", checked := Try.checked }
namespace Rows
def none {H : Type} : Left H := { results := [], args := [] }

/-- 'clavigerlaw19.TlvTells': WHATEVER THE INPUT: true; the input reads as it did. -/
def tlvTellsSpec : ChangeSpec := { name := "tlvTells", fn := fun _ => fun
  | [d] => { results := [.lit (.bool true)], args := [d] }
  | _ => none }
def tlvTellsRow : OpenClaim := { program := "ytihpndfjcgodiaa", sum := "9c999cce522aadd42afc2161f2409b35c0da0b0f1f855c6158bc3ac4ea72b904", func := "claviger/clavigerlaw19.TlvTells", spec := "tlvTells", unfollowed := true, recurses := true, apart := false }
def TlvTellsSaid : Prop := tlvTellsRow.holds Try.pinned (OpenSpec.ofChange tlvTellsSpec)

/-- ITS FALSE NEIGHBOUR: 'it returns false'. Refute it at one input. -/
def tlvTellsWrong : ChangeSpec := { name := "tlvTells", fn := fun _ => fun
  | [d] => { results := [.lit (.bool false)], args := [d] }
  | _ => none }
def TlvTellsWrongFalsely : Prop := tlvTellsRow.holds Try.pinned (OpenSpec.ofChange tlvTellsWrong)

/-- 'clavigerlaw19.TlvPieces': WHATEVER THE INPUT: true; the input reads as it did. -/
def tlvPiecesSpec : ChangeSpec := { name := "tlvPieces", fn := fun _ => fun
  | [d] => { results := [.lit (.bool true)], args := [d] }
  | _ => none }
def tlvPiecesRow : OpenClaim := { program := "ytihpndfjcgodiaa", sum := "9c999cce522aadd42afc2161f2409b35c0da0b0f1f855c6158bc3ac4ea72b904", func := "claviger/clavigerlaw19.TlvPieces", spec := "tlvPieces", unfollowed := true, recurses := true, apart := false }
def TlvPiecesSaid : Prop := tlvPiecesRow.holds Try.pinned (OpenSpec.ofChange tlvPiecesSpec)

/-- ITS FALSE NEIGHBOUR: 'it returns false'. Refute it at one input. -/
def tlvPiecesWrong : ChangeSpec := { name := "tlvPieces", fn := fun _ => fun
  | [d] => { results := [.lit (.bool false)], args := [d] }
  | _ => none }
def TlvPiecesWrongFalsely : Prop := tlvPiecesRow.holds Try.pinned (OpenSpec.ofChange tlvPiecesWrong)

/-- 'clavigerlaw19.TlvNests': WHATEVER THE INPUT: true; the input reads as it did. -/
def tlvNestsSpec : ChangeSpec := { name := "tlvNests", fn := fun _ => fun
  | [d] => { results := [.lit (.bool true)], args := [d] }
  | _ => none }
def tlvNestsRow : OpenClaim := { program := "ytihpndfjcgodiaa", sum := "9c999cce522aadd42afc2161f2409b35c0da0b0f1f855c6158bc3ac4ea72b904", func := "claviger/clavigerlaw19.TlvNests", spec := "tlvNests", unfollowed := true, recurses := true, apart := false }
def TlvNestsSaid : Prop := tlvNestsRow.holds Try.pinned (OpenSpec.ofChange tlvNestsSpec)

/-- ITS FALSE NEIGHBOUR: 'it returns false'. Refute it at one input. -/
def tlvNestsWrong : ChangeSpec := { name := "tlvNests", fn := fun _ => fun
  | [d] => { results := [.lit (.bool false)], args := [d] }
  | _ => none }
def TlvNestsWrongFalsely : Prop := tlvNestsRow.holds Try.pinned (OpenSpec.ofChange tlvNestsWrong)

/-- 'clavigerlaw19.TlvWhole': WHATEVER THE INPUT: true; the input reads as it did. -/
def tlvWholeSpec : ChangeSpec := { name := "tlvWhole", fn := fun _ => fun
  | [d1, d2, d3] => { results := [.lit (.bool true)], args := [d1, d2, d3] }
  | _ => none }
def tlvWholeRow : OpenClaim := { program := "ytihpndfjcgodiaa", sum := "9c999cce522aadd42afc2161f2409b35c0da0b0f1f855c6158bc3ac4ea72b904", func := "claviger/clavigerlaw19.TlvWhole", spec := "tlvWhole", unfollowed := true, recurses := true, apart := false }
def TlvWholeSaid : Prop := tlvWholeRow.holds Try.pinned (OpenSpec.ofChange tlvWholeSpec)

/-- ITS FALSE NEIGHBOUR: 'it returns false'. Refute it at one input. -/
def tlvWholeWrong : ChangeSpec := { name := "tlvWhole", fn := fun _ => fun
  | [d1, d2, d3] => { results := [.lit (.bool false)], args := [d1, d2, d3] }
  | _ => none }
def TlvWholeWrongFalsely : Prop := tlvWholeRow.holds Try.pinned (OpenSpec.ofChange tlvWholeWrong)

/-- 'clavigerlaw20.TreeTells': WHATEVER THE INPUT: true; the input reads as it did. -/
def treeTellsSpec : ChangeSpec := { name := "treeTells", fn := fun _ => fun
  | [d1, d2] => { results := [.lit (.bool true)], args := [d1, d2] }
  | _ => none }
def treeTellsRow : OpenClaim := { program := "ytihpndfjcgodiaa", sum := "9c999cce522aadd42afc2161f2409b35c0da0b0f1f855c6158bc3ac4ea72b904", func := "claviger/clavigerlaw20.TreeTells", spec := "treeTells", unfollowed := true, recurses := true, apart := false }
def TreeTellsSaid : Prop := treeTellsRow.holds Try.pinned (OpenSpec.ofChange treeTellsSpec)

/-- ITS FALSE NEIGHBOUR: 'it returns false'. Refute it at one input. -/
def treeTellsWrong : ChangeSpec := { name := "treeTells", fn := fun _ => fun
  | [d1, d2] => { results := [.lit (.bool false)], args := [d1, d2] }
  | _ => none }
def TreeTellsWrongFalsely : Prop := treeTellsRow.holds Try.pinned (OpenSpec.ofChange treeTellsWrong)

/-- 'clavigerlaw20.TreeBack': WHATEVER THE INPUT: true; the input reads as it did. -/
def treeBackSpec : ChangeSpec := { name := "treeBack", fn := fun _ => fun
  | [d1, d2] => { results := [.lit (.bool true)], args := [d1, d2] }
  | _ => none }
def treeBackRow : OpenClaim := { program := "ytihpndfjcgodiaa", sum := "9c999cce522aadd42afc2161f2409b35c0da0b0f1f855c6158bc3ac4ea72b904", func := "claviger/clavigerlaw20.TreeBack", spec := "treeBack", unfollowed := true, recurses := true, apart := false }
def TreeBackSaid : Prop := treeBackRow.holds Try.pinned (OpenSpec.ofChange treeBackSpec)

/-- ITS FALSE NEIGHBOUR: 'it returns false'. Refute it at one input. -/
def treeBackWrong : ChangeSpec := { name := "treeBack", fn := fun _ => fun
  | [d1, d2] => { results := [.lit (.bool false)], args := [d1, d2] }
  | _ => none }
def TreeBackWrongFalsely : Prop := treeBackRow.holds Try.pinned (OpenSpec.ofChange treeBackWrong)

/-- 'clavigerlaw20.TreeAgain': WHATEVER THE INPUT: true; the input reads as it did. -/
def treeAgainSpec : ChangeSpec := { name := "treeAgain", fn := fun _ => fun
  | [d] => { results := [.lit (.bool true)], args := [d] }
  | _ => none }
def treeAgainRow : OpenClaim := { program := "ytihpndfjcgodiaa", sum := "9c999cce522aadd42afc2161f2409b35c0da0b0f1f855c6158bc3ac4ea72b904", func := "claviger/clavigerlaw20.TreeAgain", spec := "treeAgain", unfollowed := true, recurses := true, apart := false }
def TreeAgainSaid : Prop := treeAgainRow.holds Try.pinned (OpenSpec.ofChange treeAgainSpec)

/-- ITS FALSE NEIGHBOUR: 'it returns false'. Refute it at one input. -/
def treeAgainWrong : ChangeSpec := { name := "treeAgain", fn := fun _ => fun
  | [d] => { results := [.lit (.bool false)], args := [d] }
  | _ => none }
def TreeAgainWrongFalsely : Prop := treeAgainRow.holds Try.pinned (OpenSpec.ofChange treeAgainWrong)

/- THE SECOND FORM. 'bulk': how many values and letters a reading holds, each counted each time it is reached (what is shared counts as often as it is met; a slice's spare places count too). A statement '..UptoSaid' is the law's where the arguments, and the package variables that the reading takes, are together of bulk at most 1048576: NARROWER than '..Said'. Prove '..Said' where nothing that the law and all that it calls make is longer than what came in: it says more and counts as full. Else prove '..UptoSaid'. A law counts once. -/
mutual
def uptoBulk {H : Type} : DataW H → Nat
  | .lit (.string bytes) => bytes.length + 1
  | .lit _ => 1
  | .nil => 1
  | .ptr d => uptoBulk d + 1
  | .slice elems spare => uptoBulkAll elems + uptoBulkAll spare + 1
  | .agg parts => uptoBulkAll parts + 1
  | .iface _ d => uptoBulk d + 1
  | .map entries => uptoBulkEntries entries + 1
  | .held _ => 1
def uptoBulkAll {H : Type} : List (DataW H) → Nat
  | [] => 0
  | d :: r => uptoBulk d + uptoBulkAll r
def uptoBulkEntries {H : Type} : List (Lit × DataW H) → Nat
  | [] => 0
  | x :: r => uptoBulkEntry x + uptoBulkEntries r
def uptoBulkEntry {H : Type} : Lit × DataW H → Nat
  | (.string bytes, d) => bytes.length + uptoBulk d + 1
  | (_, d) => uptoBulk d + 1
 end
def uptoSmall : (H : Type) → List (DataW H) → Bool := fun _ ds => decide (uptoBulkAll ds ≤ 1048576)
def OpenSpec.upto (s : _root_.Go.ChangeSpec) : _root_.Go.OpenSpec := { _root_.Go.OpenSpec.ofChange s with cond := some uptoSmall }

/-- 'clavigerlaw19.TlvTells', WHERE WHAT IT READS IS OF BULK AT MOST 1048576: true; the input reads as it did. -/
def tlvTellsUptoRow : OpenClaim := { program := "ytihpndfjcgodiaa", sum := "9c999cce522aadd42afc2161f2409b35c0da0b0f1f855c6158bc3ac4ea72b904", func := "claviger/clavigerlaw19.TlvTells", spec := "tlvTells", unfollowed := true, recurses := true, apart := false, narrowed := true }
def TlvTellsUptoSaid : Prop := tlvTellsUptoRow.holds Try.pinned (OpenSpec.upto tlvTellsSpec)

/-- 'clavigerlaw19.TlvPieces', WHERE WHAT IT READS IS OF BULK AT MOST 1048576: true; the input reads as it did. -/
def tlvPiecesUptoRow : OpenClaim := { program := "ytihpndfjcgodiaa", sum := "9c999cce522aadd42afc2161f2409b35c0da0b0f1f855c6158bc3ac4ea72b904", func := "claviger/clavigerlaw19.TlvPieces", spec := "tlvPieces", unfollowed := true, recurses := true, apart := false, narrowed := true }
def TlvPiecesUptoSaid : Prop := tlvPiecesUptoRow.holds Try.pinned (OpenSpec.upto tlvPiecesSpec)

/-- 'clavigerlaw19.TlvNests', WHERE WHAT IT READS IS OF BULK AT MOST 1048576: true; the input reads as it did. -/
def tlvNestsUptoRow : OpenClaim := { program := "ytihpndfjcgodiaa", sum := "9c999cce522aadd42afc2161f2409b35c0da0b0f1f855c6158bc3ac4ea72b904", func := "claviger/clavigerlaw19.TlvNests", spec := "tlvNests", unfollowed := true, recurses := true, apart := false, narrowed := true }
def TlvNestsUptoSaid : Prop := tlvNestsUptoRow.holds Try.pinned (OpenSpec.upto tlvNestsSpec)

/-- 'clavigerlaw19.TlvWhole', WHERE WHAT IT READS IS OF BULK AT MOST 1048576: true; the input reads as it did. -/
def tlvWholeUptoRow : OpenClaim := { program := "ytihpndfjcgodiaa", sum := "9c999cce522aadd42afc2161f2409b35c0da0b0f1f855c6158bc3ac4ea72b904", func := "claviger/clavigerlaw19.TlvWhole", spec := "tlvWhole", unfollowed := true, recurses := true, apart := false, narrowed := true }
def TlvWholeUptoSaid : Prop := tlvWholeUptoRow.holds Try.pinned (OpenSpec.upto tlvWholeSpec)

/-- 'clavigerlaw20.TreeTells', WHERE WHAT IT READS IS OF BULK AT MOST 1048576: true; the input reads as it did. -/
def treeTellsUptoRow : OpenClaim := { program := "ytihpndfjcgodiaa", sum := "9c999cce522aadd42afc2161f2409b35c0da0b0f1f855c6158bc3ac4ea72b904", func := "claviger/clavigerlaw20.TreeTells", spec := "treeTells", unfollowed := true, recurses := true, apart := false, narrowed := true }
def TreeTellsUptoSaid : Prop := treeTellsUptoRow.holds Try.pinned (OpenSpec.upto treeTellsSpec)

/-- 'clavigerlaw20.TreeBack', WHERE WHAT IT READS IS OF BULK AT MOST 1048576: true; the input reads as it did. -/
def treeBackUptoRow : OpenClaim := { program := "ytihpndfjcgodiaa", sum := "9c999cce522aadd42afc2161f2409b35c0da0b0f1f855c6158bc3ac4ea72b904", func := "claviger/clavigerlaw20.TreeBack", spec := "treeBack", unfollowed := true, recurses := true, apart := false, narrowed := true }
def TreeBackUptoSaid : Prop := treeBackUptoRow.holds Try.pinned (OpenSpec.upto treeBackSpec)

/-- 'clavigerlaw20.TreeAgain', WHERE WHAT IT READS IS OF BULK AT MOST 1048576: true; the input reads as it did. -/
def treeAgainUptoRow : OpenClaim := { program := "ytihpndfjcgodiaa", sum := "9c999cce522aadd42afc2161f2409b35c0da0b0f1f855c6158bc3ac4ea72b904", func := "claviger/clavigerlaw20.TreeAgain", spec := "treeAgain", unfollowed := true, recurses := true, apart := false, narrowed := true }
def TreeAgainUptoSaid : Prop := treeAgainUptoRow.holds Try.pinned (OpenSpec.upto treeAgainSpec)

end Rows
end Go.Proofs.Ytihpndfjcgodiaa
