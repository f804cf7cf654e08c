/-
  No cell of these rows narrows 'for every input' (looked for: loops, veiled, ifaces, maps, wideKeys, modest, calm, conditions, laid).
  DERIVED. THE GIVEN ROWS OF THIS SEAT. 12 by the template 'for every input the law returns true; each argument reads behind the call as it read before'; 0 by the template 'total and deterministic' (their statements: YtglilnlhgdhnmaaTotals.lean).
  GIVEN WITH THE SEED: the statements are not yours to turn. If you find one false, say at which input.
  Laid BY PROGRAM, IN A SANDBOX (cutbox-rows.mjs): the forced cells as the released guide's own fill.sh prints them over the translation 9dc9954514ab307e… (all of the seat's roots in one cut). By AI agents, Wed Nov 11 2026. No macro, syntax, notation, axiom, sorry.
-/
import Derived.Test.YtglilnlhgdhnmaaChecked
import GoSem.Claim
import GoSem.ClaimJoined
import GoSem.ClaimMapViews
import Derived.JoinedTies
import Derived.KernelRfl
namespace Go.Proofs.Ytglilnlhgdhnmaa
/- THE CELL 'sum', in the pinned program and in every row, IS THE sha256 OF THE DUMP (.gsa) THAT YtglilnlhgdhnmaaProg.lean LOADS. Nothing in Lean hashes anything: it is a label: what it is worth is what the hold of that sum in a sandbox is worth. -/
noncomputable def Try.pinned : Pinned := { name := "ytglilnlhgdhnmaa", sum := "9dc9954514ab307e9f479fbc1decf59d5b1d3378e2a38c947982c50c4c2daa15", checked := Try.checked }
namespace Rows
def none {H : Type} : Left H := { results := [], args := [] }

/-- 'clavigerlaw17.OidTells': WHATEVER THE INPUT: true; the input reads as it did. -/
def oidTellsSpec : ChangeSpec := { name := "oidTells", fn := fun _ => fun
  | [d1, d2, d3, d4] => { results := [.lit (.bool true)], args := [d1, d2, d3, d4] }
  | _ => none }
def oidTellsRow : OpenClaim := { program := "ytglilnlhgdhnmaa", sum := "9dc9954514ab307e9f479fbc1decf59d5b1d3378e2a38c947982c50c4c2daa15", func := "claviger/clavigerlaw17.OidTells", spec := "oidTells", inPlace := ["internal/bytealg.IndexByteString", "internal/bytealg.IndexString"], unfollowed := true, recurses := true, named := ["internal/bytealg.MaxLen"], apart := false }
def OidTellsSaid : Prop := oidTellsRow.holds Try.pinned (OpenSpec.ofChange oidTellsSpec)

/-- ITS FALSE NEIGHBOUR: 'it returns false'. Refute it at one input. -/
def oidTellsWrong : ChangeSpec := { name := "oidTells", fn := fun _ => fun
  | [d1, d2, d3, d4] => { results := [.lit (.bool false)], args := [d1, d2, d3, d4] }
  | _ => none }
def OidTellsWrongFalsely : Prop := oidTellsRow.holds Try.pinned (OpenSpec.ofChange oidTellsWrong)

/-- 'clavigerlaw17.OidBack': WHATEVER THE INPUT: true; the input reads as it did. -/
def oidBackSpec : ChangeSpec := { name := "oidBack", fn := fun _ => fun
  | [d1, d2, d3, d4] => { results := [.lit (.bool true)], args := [d1, d2, d3, d4] }
  | _ => none }
def oidBackRow : OpenClaim := { program := "ytglilnlhgdhnmaa", sum := "9dc9954514ab307e9f479fbc1decf59d5b1d3378e2a38c947982c50c4c2daa15", func := "claviger/clavigerlaw17.OidBack", spec := "oidBack", inPlace := ["internal/bytealg.IndexByteString", "internal/bytealg.IndexString"], unfollowed := true, recurses := true, named := ["internal/bytealg.MaxLen"], apart := false }
def OidBackSaid : Prop := oidBackRow.holds Try.pinned (OpenSpec.ofChange oidBackSpec)

/-- ITS FALSE NEIGHBOUR: 'it returns false'. Refute it at one input. -/
def oidBackWrong : ChangeSpec := { name := "oidBack", fn := fun _ => fun
  | [d1, d2, d3, d4] => { results := [.lit (.bool false)], args := [d1, d2, d3, d4] }
  | _ => none }
def OidBackWrongFalsely : Prop := oidBackRow.holds Try.pinned (OpenSpec.ofChange oidBackWrong)

/-- 'clavigerlaw18.StrsTells': WHATEVER THE INPUT: true; the input reads as it did. -/
def strsTellsSpec : ChangeSpec := { name := "strsTells", fn := fun _ => fun
  | [d1, d2, d3] => { results := [.lit (.bool true)], args := [d1, d2, d3] }
  | _ => none }
def strsTellsRow : OpenClaim := { program := "ytglilnlhgdhnmaa", sum := "9dc9954514ab307e9f479fbc1decf59d5b1d3378e2a38c947982c50c4c2daa15", func := "claviger/clavigerlaw18.StrsTells", spec := "strsTells", unfollowed := true, recurses := true, apart := false }
def StrsTellsSaid : Prop := strsTellsRow.holds Try.pinned (OpenSpec.ofChange strsTellsSpec)

/-- ITS FALSE NEIGHBOUR: 'it returns false'. Refute it at one input. -/
def strsTellsWrong : ChangeSpec := { name := "strsTells", fn := fun _ => fun
  | [d1, d2, d3] => { results := [.lit (.bool false)], args := [d1, d2, d3] }
  | _ => none }
def StrsTellsWrongFalsely : Prop := strsTellsRow.holds Try.pinned (OpenSpec.ofChange strsTellsWrong)

/-- 'clavigerlaw18.StrsRight': WHATEVER THE INPUT: true; the input reads as it did. -/
def strsRightSpec : ChangeSpec := { name := "strsRight", fn := fun _ => fun
  | [d1, d2] => { results := [.lit (.bool true)], args := [d1, d2] }
  | _ => none }
def strsRightRow : OpenClaim := { program := "ytglilnlhgdhnmaa", sum := "9dc9954514ab307e9f479fbc1decf59d5b1d3378e2a38c947982c50c4c2daa15", func := "claviger/clavigerlaw18.StrsRight", spec := "strsRight", unfollowed := true, recurses := true, apart := false }
def StrsRightSaid : Prop := strsRightRow.holds Try.pinned (OpenSpec.ofChange strsRightSpec)

/-- ITS FALSE NEIGHBOUR: 'it returns false'. Refute it at one input. -/
def strsRightWrong : ChangeSpec := { name := "strsRight", fn := fun _ => fun
  | [d1, d2] => { results := [.lit (.bool false)], args := [d1, d2] }
  | _ => none }
def StrsRightWrongFalsely : Prop := strsRightRow.holds Try.pinned (OpenSpec.ofChange strsRightWrong)

/-- 'clavigerlaw18.StrsBack': WHATEVER THE INPUT: true; the input reads as it did. -/
def strsBackSpec : ChangeSpec := { name := "strsBack", fn := fun _ => fun
  | [d1, d2, d3, d4] => { results := [.lit (.bool true)], args := [d1, d2, d3, d4] }
  | _ => none }
def strsBackRow : OpenClaim := { program := "ytglilnlhgdhnmaa", sum := "9dc9954514ab307e9f479fbc1decf59d5b1d3378e2a38c947982c50c4c2daa15", func := "claviger/clavigerlaw18.StrsBack", spec := "strsBack", unfollowed := true, recurses := true, apart := false }
def StrsBackSaid : Prop := strsBackRow.holds Try.pinned (OpenSpec.ofChange strsBackSpec)

/-- ITS FALSE NEIGHBOUR: 'it returns false'. Refute it at one input. -/
def strsBackWrong : ChangeSpec := { name := "strsBack", fn := fun _ => fun
  | [d1, d2, d3, d4] => { results := [.lit (.bool false)], args := [d1, d2, d3, d4] }
  | _ => none }
def StrsBackWrongFalsely : Prop := strsBackRow.holds Try.pinned (OpenSpec.ofChange strsBackWrong)

/-- 'clavigerlaw19.TlvTells': WHATEVER THE INPUT: true; the input reads as it did. -/
def tlvTellsSpec : ChangeSpec := { name := "tlvTells", fn := fun _ => fun
  | [d] => { results := [.lit (.bool true)], args := [d] }
  | _ => none }
def tlvTellsRow : OpenClaim := { program := "ytglilnlhgdhnmaa", sum := "9dc9954514ab307e9f479fbc1decf59d5b1d3378e2a38c947982c50c4c2daa15", func := "claviger/clavigerlaw19.TlvTells", spec := "tlvTells", unfollowed := true, recurses := true, apart := false }
def TlvTellsSaid : Prop := tlvTellsRow.holds Try.pinned (OpenSpec.ofChange tlvTellsSpec)

/-- ITS FALSE NEIGHBOUR: 'it returns false'. Refute it at one input. -/
def tlvTellsWrong : ChangeSpec := { name := "tlvTells", fn := fun _ => fun
  | [d] => { results := [.lit (.bool false)], args := [d] }
  | _ => none }
def TlvTellsWrongFalsely : Prop := tlvTellsRow.holds Try.pinned (OpenSpec.ofChange tlvTellsWrong)

/-- 'clavigerlaw19.TlvPieces': WHATEVER THE INPUT: true; the input reads as it did. -/
def tlvPiecesSpec : ChangeSpec := { name := "tlvPieces", fn := fun _ => fun
  | [d] => { results := [.lit (.bool true)], args := [d] }
  | _ => none }
def tlvPiecesRow : OpenClaim := { program := "ytglilnlhgdhnmaa", sum := "9dc9954514ab307e9f479fbc1decf59d5b1d3378e2a38c947982c50c4c2daa15", func := "claviger/clavigerlaw19.TlvPieces", spec := "tlvPieces", unfollowed := true, recurses := true, apart := false }
def TlvPiecesSaid : Prop := tlvPiecesRow.holds Try.pinned (OpenSpec.ofChange tlvPiecesSpec)

/-- ITS FALSE NEIGHBOUR: 'it returns false'. Refute it at one input. -/
def tlvPiecesWrong : ChangeSpec := { name := "tlvPieces", fn := fun _ => fun
  | [d] => { results := [.lit (.bool false)], args := [d] }
  | _ => none }
def TlvPiecesWrongFalsely : Prop := tlvPiecesRow.holds Try.pinned (OpenSpec.ofChange tlvPiecesWrong)

/-- 'clavigerlaw19.TlvNests': WHATEVER THE INPUT: true; the input reads as it did. -/
def tlvNestsSpec : ChangeSpec := { name := "tlvNests", fn := fun _ => fun
  | [d] => { results := [.lit (.bool true)], args := [d] }
  | _ => none }
def tlvNestsRow : OpenClaim := { program := "ytglilnlhgdhnmaa", sum := "9dc9954514ab307e9f479fbc1decf59d5b1d3378e2a38c947982c50c4c2daa15", func := "claviger/clavigerlaw19.TlvNests", spec := "tlvNests", unfollowed := true, recurses := true, apart := false }
def TlvNestsSaid : Prop := tlvNestsRow.holds Try.pinned (OpenSpec.ofChange tlvNestsSpec)

/-- ITS FALSE NEIGHBOUR: 'it returns false'. Refute it at one input. -/
def tlvNestsWrong : ChangeSpec := { name := "tlvNests", fn := fun _ => fun
  | [d] => { results := [.lit (.bool false)], args := [d] }
  | _ => none }
def TlvNestsWrongFalsely : Prop := tlvNestsRow.holds Try.pinned (OpenSpec.ofChange tlvNestsWrong)

/-- 'clavigerlaw19.TlvWhole': WHATEVER THE INPUT: true; the input reads as it did. -/
def tlvWholeSpec : ChangeSpec := { name := "tlvWhole", fn := fun _ => fun
  | [d1, d2, d3] => { results := [.lit (.bool true)], args := [d1, d2, d3] }
  | _ => none }
def tlvWholeRow : OpenClaim := { program := "ytglilnlhgdhnmaa", sum := "9dc9954514ab307e9f479fbc1decf59d5b1d3378e2a38c947982c50c4c2daa15", func := "claviger/clavigerlaw19.TlvWhole", spec := "tlvWhole", unfollowed := true, recurses := true, apart := false }
def TlvWholeSaid : Prop := tlvWholeRow.holds Try.pinned (OpenSpec.ofChange tlvWholeSpec)

/-- ITS FALSE NEIGHBOUR: 'it returns false'. Refute it at one input. -/
def tlvWholeWrong : ChangeSpec := { name := "tlvWhole", fn := fun _ => fun
  | [d1, d2, d3] => { results := [.lit (.bool false)], args := [d1, d2, d3] }
  | _ => none }
def TlvWholeWrongFalsely : Prop := tlvWholeRow.holds Try.pinned (OpenSpec.ofChange tlvWholeWrong)

/-- 'clavigerlaw20.TreeTells': WHATEVER THE INPUT: true; the input reads as it did. -/
def treeTellsSpec : ChangeSpec := { name := "treeTells", fn := fun _ => fun
  | [d1, d2] => { results := [.lit (.bool true)], args := [d1, d2] }
  | _ => none }
def treeTellsRow : OpenClaim := { program := "ytglilnlhgdhnmaa", sum := "9dc9954514ab307e9f479fbc1decf59d5b1d3378e2a38c947982c50c4c2daa15", func := "claviger/clavigerlaw20.TreeTells", spec := "treeTells", unfollowed := true, recurses := true, apart := false }
def TreeTellsSaid : Prop := treeTellsRow.holds Try.pinned (OpenSpec.ofChange treeTellsSpec)

/-- ITS FALSE NEIGHBOUR: 'it returns false'. Refute it at one input. -/
def treeTellsWrong : ChangeSpec := { name := "treeTells", fn := fun _ => fun
  | [d1, d2] => { results := [.lit (.bool false)], args := [d1, d2] }
  | _ => none }
def TreeTellsWrongFalsely : Prop := treeTellsRow.holds Try.pinned (OpenSpec.ofChange treeTellsWrong)

/-- 'clavigerlaw20.TreeBack': WHATEVER THE INPUT: true; the input reads as it did. -/
def treeBackSpec : ChangeSpec := { name := "treeBack", fn := fun _ => fun
  | [d1, d2] => { results := [.lit (.bool true)], args := [d1, d2] }
  | _ => none }
def treeBackRow : OpenClaim := { program := "ytglilnlhgdhnmaa", sum := "9dc9954514ab307e9f479fbc1decf59d5b1d3378e2a38c947982c50c4c2daa15", func := "claviger/clavigerlaw20.TreeBack", spec := "treeBack", unfollowed := true, recurses := true, apart := false }
def TreeBackSaid : Prop := treeBackRow.holds Try.pinned (OpenSpec.ofChange treeBackSpec)

/-- ITS FALSE NEIGHBOUR: 'it returns false'. Refute it at one input. -/
def treeBackWrong : ChangeSpec := { name := "treeBack", fn := fun _ => fun
  | [d1, d2] => { results := [.lit (.bool false)], args := [d1, d2] }
  | _ => none }
def TreeBackWrongFalsely : Prop := treeBackRow.holds Try.pinned (OpenSpec.ofChange treeBackWrong)

/-- 'clavigerlaw20.TreeAgain': WHATEVER THE INPUT: true; the input reads as it did. -/
def treeAgainSpec : ChangeSpec := { name := "treeAgain", fn := fun _ => fun
  | [d] => { results := [.lit (.bool true)], args := [d] }
  | _ => none }
def treeAgainRow : OpenClaim := { program := "ytglilnlhgdhnmaa", sum := "9dc9954514ab307e9f479fbc1decf59d5b1d3378e2a38c947982c50c4c2daa15", func := "claviger/clavigerlaw20.TreeAgain", spec := "treeAgain", unfollowed := true, recurses := true, apart := false }
def TreeAgainSaid : Prop := treeAgainRow.holds Try.pinned (OpenSpec.ofChange treeAgainSpec)

/-- ITS FALSE NEIGHBOUR: 'it returns false'. Refute it at one input. -/
def treeAgainWrong : ChangeSpec := { name := "treeAgain", fn := fun _ => fun
  | [d] => { results := [.lit (.bool false)], args := [d] }
  | _ => none }
def TreeAgainWrongFalsely : Prop := treeAgainRow.holds Try.pinned (OpenSpec.ofChange treeAgainWrong)

/- THE SECOND FORM. 'bulk': how many values and letters a reading holds, each counted each time it is reached (what is shared counts as often as it is met; a slice's spare places count too). A statement '..UptoSaid' is the law's where the arguments, and the package variables that the reading takes, are together of bulk at most 1048576: NARROWER than '..Said'. Prove '..Said' where nothing that the law and all that it calls make is longer than what came in: it says more and counts as full. Else prove '..UptoSaid'. A law counts once. -/
mutual
def uptoBulk {H : Type} : DataW H → Nat
  | .lit (.string bytes) => bytes.length + 1
  | .lit _ => 1
  | .nil => 1
  | .ptr d => uptoBulk d + 1
  | .slice elems spare => uptoBulkAll elems + uptoBulkAll spare + 1
  | .agg parts => uptoBulkAll parts + 1
  | .iface _ d => uptoBulk d + 1
  | .map entries => uptoBulkEntries entries + 1
  | .held _ => 1
def uptoBulkAll {H : Type} : List (DataW H) → Nat
  | [] => 0
  | d :: r => uptoBulk d + uptoBulkAll r
def uptoBulkEntries {H : Type} : List (Lit × DataW H) → Nat
  | [] => 0
  | x :: r => uptoBulkEntry x + uptoBulkEntries r
def uptoBulkEntry {H : Type} : Lit × DataW H → Nat
  | (.string bytes, d) => bytes.length + uptoBulk d + 1
  | (_, d) => uptoBulk d + 1
 end
def uptoSmall : (H : Type) → List (DataW H) → Bool := fun _ ds => decide (uptoBulkAll ds ≤ 1048576)
def OpenSpec.upto (s : _root_.Go.ChangeSpec) : _root_.Go.OpenSpec := { _root_.Go.OpenSpec.ofChange s with cond := some uptoSmall }

/-- 'clavigerlaw17.OidTells', WHERE WHAT IT READS IS OF BULK AT MOST 1048576: true; the input reads as it did. -/
def oidTellsUptoRow : OpenClaim := { program := "ytglilnlhgdhnmaa", sum := "9dc9954514ab307e9f479fbc1decf59d5b1d3378e2a38c947982c50c4c2daa15", func := "claviger/clavigerlaw17.OidTells", spec := "oidTells", inPlace := ["internal/bytealg.IndexByteString", "internal/bytealg.IndexString"], unfollowed := true, recurses := true, named := ["internal/bytealg.MaxLen"], apart := false, narrowed := true }
def OidTellsUptoSaid : Prop := oidTellsUptoRow.holds Try.pinned (OpenSpec.upto oidTellsSpec)

/-- 'clavigerlaw17.OidBack', WHERE WHAT IT READS IS OF BULK AT MOST 1048576: true; the input reads as it did. -/
def oidBackUptoRow : OpenClaim := { program := "ytglilnlhgdhnmaa", sum := "9dc9954514ab307e9f479fbc1decf59d5b1d3378e2a38c947982c50c4c2daa15", func := "claviger/clavigerlaw17.OidBack", spec := "oidBack", inPlace := ["internal/bytealg.IndexByteString", "internal/bytealg.IndexString"], unfollowed := true, recurses := true, named := ["internal/bytealg.MaxLen"], apart := false, narrowed := true }
def OidBackUptoSaid : Prop := oidBackUptoRow.holds Try.pinned (OpenSpec.upto oidBackSpec)

/-- 'clavigerlaw18.StrsTells', WHERE WHAT IT READS IS OF BULK AT MOST 1048576: true; the input reads as it did. -/
def strsTellsUptoRow : OpenClaim := { program := "ytglilnlhgdhnmaa", sum := "9dc9954514ab307e9f479fbc1decf59d5b1d3378e2a38c947982c50c4c2daa15", func := "claviger/clavigerlaw18.StrsTells", spec := "strsTells", unfollowed := true, recurses := true, apart := false, narrowed := true }
def StrsTellsUptoSaid : Prop := strsTellsUptoRow.holds Try.pinned (OpenSpec.upto strsTellsSpec)

/-- 'clavigerlaw18.StrsRight', WHERE WHAT IT READS IS OF BULK AT MOST 1048576: true; the input reads as it did. -/
def strsRightUptoRow : OpenClaim := { program := "ytglilnlhgdhnmaa", sum := "9dc9954514ab307e9f479fbc1decf59d5b1d3378e2a38c947982c50c4c2daa15", func := "claviger/clavigerlaw18.StrsRight", spec := "strsRight", unfollowed := true, recurses := true, apart := false, narrowed := true }
def StrsRightUptoSaid : Prop := strsRightUptoRow.holds Try.pinned (OpenSpec.upto strsRightSpec)

/-- 'clavigerlaw18.StrsBack', WHERE WHAT IT READS IS OF BULK AT MOST 1048576: true; the input reads as it did. -/
def strsBackUptoRow : OpenClaim := { program := "ytglilnlhgdhnmaa", sum := "9dc9954514ab307e9f479fbc1decf59d5b1d3378e2a38c947982c50c4c2daa15", func := "claviger/clavigerlaw18.StrsBack", spec := "strsBack", unfollowed := true, recurses := true, apart := false, narrowed := true }
def StrsBackUptoSaid : Prop := strsBackUptoRow.holds Try.pinned (OpenSpec.upto strsBackSpec)

/-- 'clavigerlaw19.TlvTells', WHERE WHAT IT READS IS OF BULK AT MOST 1048576: true; the input reads as it did. -/
def tlvTellsUptoRow : OpenClaim := { program := "ytglilnlhgdhnmaa", sum := "9dc9954514ab307e9f479fbc1decf59d5b1d3378e2a38c947982c50c4c2daa15", func := "claviger/clavigerlaw19.TlvTells", spec := "tlvTells", unfollowed := true, recurses := true, apart := false, narrowed := true }
def TlvTellsUptoSaid : Prop := tlvTellsUptoRow.holds Try.pinned (OpenSpec.upto tlvTellsSpec)

/-- 'clavigerlaw19.TlvPieces', WHERE WHAT IT READS IS OF BULK AT MOST 1048576: true; the input reads as it did. -/
def tlvPiecesUptoRow : OpenClaim := { program := "ytglilnlhgdhnmaa", sum := "9dc9954514ab307e9f479fbc1decf59d5b1d3378e2a38c947982c50c4c2daa15", func := "claviger/clavigerlaw19.TlvPieces", spec := "tlvPieces", unfollowed := true, recurses := true, apart := false, narrowed := true }
def TlvPiecesUptoSaid : Prop := tlvPiecesUptoRow.holds Try.pinned (OpenSpec.upto tlvPiecesSpec)

/-- 'clavigerlaw19.TlvNests', WHERE WHAT IT READS IS OF BULK AT MOST 1048576: true; the input reads as it did. -/
def tlvNestsUptoRow : OpenClaim := { program := "ytglilnlhgdhnmaa", sum := "9dc9954514ab307e9f479fbc1decf59d5b1d3378e2a38c947982c50c4c2daa15", func := "claviger/clavigerlaw19.TlvNests", spec := "tlvNests", unfollowed := true, recurses := true, apart := false, narrowed := true }
def TlvNestsUptoSaid : Prop := tlvNestsUptoRow.holds Try.pinned (OpenSpec.upto tlvNestsSpec)

/-- 'clavigerlaw19.TlvWhole', WHERE WHAT IT READS IS OF BULK AT MOST 1048576: true; the input reads as it did. -/
def tlvWholeUptoRow : OpenClaim := { program := "ytglilnlhgdhnmaa", sum := "9dc9954514ab307e9f479fbc1decf59d5b1d3378e2a38c947982c50c4c2daa15", func := "claviger/clavigerlaw19.TlvWhole", spec := "tlvWhole", unfollowed := true, recurses := true, apart := false, narrowed := true }
def TlvWholeUptoSaid : Prop := tlvWholeUptoRow.holds Try.pinned (OpenSpec.upto tlvWholeSpec)

/-- 'clavigerlaw20.TreeTells', WHERE WHAT IT READS IS OF BULK AT MOST 1048576: true; the input reads as it did. -/
def treeTellsUptoRow : OpenClaim := { program := "ytglilnlhgdhnmaa", sum := "9dc9954514ab307e9f479fbc1decf59d5b1d3378e2a38c947982c50c4c2daa15", func := "claviger/clavigerlaw20.TreeTells", spec := "treeTells", unfollowed := true, recurses := true, apart := false, narrowed := true }
def TreeTellsUptoSaid : Prop := treeTellsUptoRow.holds Try.pinned (OpenSpec.upto treeTellsSpec)

/-- 'clavigerlaw20.TreeBack', WHERE WHAT IT READS IS OF BULK AT MOST 1048576: true; the input reads as it did. -/
def treeBackUptoRow : OpenClaim := { program := "ytglilnlhgdhnmaa", sum := "9dc9954514ab307e9f479fbc1decf59d5b1d3378e2a38c947982c50c4c2daa15", func := "claviger/clavigerlaw20.TreeBack", spec := "treeBack", unfollowed := true, recurses := true, apart := false, narrowed := true }
def TreeBackUptoSaid : Prop := treeBackUptoRow.holds Try.pinned (OpenSpec.upto treeBackSpec)

/-- 'clavigerlaw20.TreeAgain', WHERE WHAT IT READS IS OF BULK AT MOST 1048576: true; the input reads as it did. -/
def treeAgainUptoRow : OpenClaim := { program := "ytglilnlhgdhnmaa", sum := "9dc9954514ab307e9f479fbc1decf59d5b1d3378e2a38c947982c50c4c2daa15", func := "claviger/clavigerlaw20.TreeAgain", spec := "treeAgain", unfollowed := true, recurses := true, apart := false, narrowed := true }
def TreeAgainUptoSaid : Prop := treeAgainUptoRow.holds Try.pinned (OpenSpec.upto treeAgainSpec)

end Rows
end Go.Proofs.Ytglilnlhgdhnmaa
