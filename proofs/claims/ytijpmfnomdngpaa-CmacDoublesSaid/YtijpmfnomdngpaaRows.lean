/-
  No cell of these rows narrows 'for every input' (looked for: loops, veiled, ifaces, maps, wideKeys, modest, calm, conditions, laid).
  DERIVED. THE GIVEN ROWS OF THIS SEAT. 10 by the template 'for every input the law returns true; each argument reads behind the call as it read before'; 0 by the template 'total and deterministic' (their statements: YtijpmfnomdngpaaTotals.lean).
  GIVEN WITH THE SEED: the statements are not yours to turn. If you find one false, say at which input.
  Laid BY PROGRAM, IN A SANDBOX (cutbox-rows.mjs): the forced cells as the released guide's own fill.sh prints them over the translation 4f3ea152d756268d… (all of the seat's roots in one cut). By AI agents, Wed Nov 11 2026. No macro, syntax, notation, axiom, sorry.
-/
import Derived.Test.YtijpmfnomdngpaaChecked
import GoSem.Claim
import GoSem.ClaimJoined
import GoSem.ClaimMapViews
import Derived.JoinedTies
import Derived.KernelRfl
namespace Go.Proofs.Ytijpmfnomdngpaa
/- THE CELL 'sum', in the pinned program and in every row, IS THE sha256 OF THE DUMP (.gsa) THAT YtijpmfnomdngpaaProg.lean LOADS. Nothing in Lean hashes anything: it is a label: what it is worth is what the hold of that sum in a sandbox is worth. -/
noncomputable def Try.pinned : Pinned := { name := "ytijpmfnomdngpaa", sum := "4f3ea152d756268d0e75cc8090e30a674aed9fcc9bee24df85a6a0b87b909289", checked := Try.checked }
namespace Rows
def none {H : Type} : Left H := { results := [], args := [] }

/-- 'clavigerlaw09.AesTells': WHATEVER THE INPUT: true; the input reads as it did. -/
def aesTellsSpec : ChangeSpec := { name := "aesTells", fn := fun _ => fun
  | [d1, d2] => { results := [.lit (.bool true)], args := [d1, d2] }
  | _ => none }
def aesTellsRow : OpenClaim := { program := "ytijpmfnomdngpaa", sum := "4f3ea152d756268d0e75cc8090e30a674aed9fcc9bee24df85a6a0b87b909289", func := "claviger/clavigerlaw09.AesTells", spec := "aesTells", unfollowed := true, recurses := true, apart := false }
def AesTellsSaid : Prop := aesTellsRow.holds Try.pinned (OpenSpec.ofChange aesTellsSpec)

/-- ITS FALSE NEIGHBOUR: 'it returns false'. Refute it at one input. -/
def aesTellsWrong : ChangeSpec := { name := "aesTells", fn := fun _ => fun
  | [d1, d2] => { results := [.lit (.bool false)], args := [d1, d2] }
  | _ => none }
def AesTellsWrongFalsely : Prop := aesTellsRow.holds Try.pinned (OpenSpec.ofChange aesTellsWrong)

/-- 'clavigerlaw09.AesMany': WHATEVER THE INPUT: true; the input reads as it did. -/
def aesManySpec : ChangeSpec := { name := "aesMany", fn := fun _ => fun
  | [d1, d2, d3] => { results := [.lit (.bool true)], args := [d1, d2, d3] }
  | _ => none }
def aesManyRow : OpenClaim := { program := "ytijpmfnomdngpaa", sum := "4f3ea152d756268d0e75cc8090e30a674aed9fcc9bee24df85a6a0b87b909289", func := "claviger/clavigerlaw09.AesMany", spec := "aesMany", unfollowed := true, recurses := true, apart := false }
def AesManySaid : Prop := aesManyRow.holds Try.pinned (OpenSpec.ofChange aesManySpec)

/-- ITS FALSE NEIGHBOUR: 'it returns false'. Refute it at one input. -/
def aesManyWrong : ChangeSpec := { name := "aesMany", fn := fun _ => fun
  | [d1, d2, d3] => { results := [.lit (.bool false)], args := [d1, d2, d3] }
  | _ => none }
def AesManyWrongFalsely : Prop := aesManyRow.holds Try.pinned (OpenSpec.ofChange aesManyWrong)

/-- 'clavigerlaw09.AesBack': WHATEVER THE INPUT: true; the input reads as it did. -/
def aesBackSpec : ChangeSpec := { name := "aesBack", fn := fun _ => fun
  | [d1, d2, d3] => { results := [.lit (.bool true)], args := [d1, d2, d3] }
  | _ => none }
def aesBackRow : OpenClaim := { program := "ytijpmfnomdngpaa", sum := "4f3ea152d756268d0e75cc8090e30a674aed9fcc9bee24df85a6a0b87b909289", func := "claviger/clavigerlaw09.AesBack", spec := "aesBack", unfollowed := true, recurses := true, apart := false }
def AesBackSaid : Prop := aesBackRow.holds Try.pinned (OpenSpec.ofChange aesBackSpec)

/-- ITS FALSE NEIGHBOUR: 'it returns false'. Refute it at one input. -/
def aesBackWrong : ChangeSpec := { name := "aesBack", fn := fun _ => fun
  | [d1, d2, d3] => { results := [.lit (.bool false)], args := [d1, d2, d3] }
  | _ => none }
def AesBackWrongFalsely : Prop := aesBackRow.holds Try.pinned (OpenSpec.ofChange aesBackWrong)

/-- 'clavigerlaw10.CbcTells': WHATEVER THE INPUT: true; the input reads as it did. -/
def cbcTellsSpec : ChangeSpec := { name := "cbcTells", fn := fun _ => fun
  | [d1, d2, d3] => { results := [.lit (.bool true)], args := [d1, d2, d3] }
  | _ => none }
def cbcTellsRow : OpenClaim := { program := "ytijpmfnomdngpaa", sum := "4f3ea152d756268d0e75cc8090e30a674aed9fcc9bee24df85a6a0b87b909289", func := "claviger/clavigerlaw10.CbcTells", spec := "cbcTells", unfollowed := true, recurses := true, apart := false }
def CbcTellsSaid : Prop := cbcTellsRow.holds Try.pinned (OpenSpec.ofChange cbcTellsSpec)

/-- ITS FALSE NEIGHBOUR: 'it returns false'. Refute it at one input. -/
def cbcTellsWrong : ChangeSpec := { name := "cbcTells", fn := fun _ => fun
  | [d1, d2, d3] => { results := [.lit (.bool false)], args := [d1, d2, d3] }
  | _ => none }
def CbcTellsWrongFalsely : Prop := cbcTellsRow.holds Try.pinned (OpenSpec.ofChange cbcTellsWrong)

/-- 'clavigerlaw10.CbcBack': WHATEVER THE INPUT: true; the input reads as it did. -/
def cbcBackSpec : ChangeSpec := { name := "cbcBack", fn := fun _ => fun
  | [d1, d2, d3, d4] => { results := [.lit (.bool true)], args := [d1, d2, d3, d4] }
  | _ => none }
def cbcBackRow : OpenClaim := { program := "ytijpmfnomdngpaa", sum := "4f3ea152d756268d0e75cc8090e30a674aed9fcc9bee24df85a6a0b87b909289", func := "claviger/clavigerlaw10.CbcBack", spec := "cbcBack", unfollowed := true, recurses := true, apart := false }
def CbcBackSaid : Prop := cbcBackRow.holds Try.pinned (OpenSpec.ofChange cbcBackSpec)

/-- ITS FALSE NEIGHBOUR: 'it returns false'. Refute it at one input. -/
def cbcBackWrong : ChangeSpec := { name := "cbcBack", fn := fun _ => fun
  | [d1, d2, d3, d4] => { results := [.lit (.bool false)], args := [d1, d2, d3, d4] }
  | _ => none }
def CbcBackWrongFalsely : Prop := cbcBackRow.holds Try.pinned (OpenSpec.ofChange cbcBackWrong)

/-- 'clavigerlaw11.CmacTells': WHATEVER THE INPUT: true; the input reads as it did. -/
def cmacTellsSpec : ChangeSpec := { name := "cmacTells", fn := fun _ => fun
  | [d1, d2, d3, d4] => { results := [.lit (.bool true)], args := [d1, d2, d3, d4] }
  | _ => none }
def cmacTellsRow : OpenClaim := { program := "ytijpmfnomdngpaa", sum := "4f3ea152d756268d0e75cc8090e30a674aed9fcc9bee24df85a6a0b87b909289", func := "claviger/clavigerlaw11.CmacTells", spec := "cmacTells", unfollowed := true, recurses := true, apart := false }
def CmacTellsSaid : Prop := cmacTellsRow.holds Try.pinned (OpenSpec.ofChange cmacTellsSpec)

/-- ITS FALSE NEIGHBOUR: 'it returns false'. Refute it at one input. -/
def cmacTellsWrong : ChangeSpec := { name := "cmacTells", fn := fun _ => fun
  | [d1, d2, d3, d4] => { results := [.lit (.bool false)], args := [d1, d2, d3, d4] }
  | _ => none }
def CmacTellsWrongFalsely : Prop := cmacTellsRow.holds Try.pinned (OpenSpec.ofChange cmacTellsWrong)

/-- 'clavigerlaw11.CmacChecks': WHATEVER THE INPUT: true; the input reads as it did. -/
def cmacChecksSpec : ChangeSpec := { name := "cmacChecks", fn := fun _ => fun
  | [d1, d2, d3] => { results := [.lit (.bool true)], args := [d1, d2, d3] }
  | _ => none }
def cmacChecksRow : OpenClaim := { program := "ytijpmfnomdngpaa", sum := "4f3ea152d756268d0e75cc8090e30a674aed9fcc9bee24df85a6a0b87b909289", func := "claviger/clavigerlaw11.CmacChecks", spec := "cmacChecks", unfollowed := true, recurses := true, apart := false }
def CmacChecksSaid : Prop := cmacChecksRow.holds Try.pinned (OpenSpec.ofChange cmacChecksSpec)

/-- ITS FALSE NEIGHBOUR: 'it returns false'. Refute it at one input. -/
def cmacChecksWrong : ChangeSpec := { name := "cmacChecks", fn := fun _ => fun
  | [d1, d2, d3] => { results := [.lit (.bool false)], args := [d1, d2, d3] }
  | _ => none }
def CmacChecksWrongFalsely : Prop := cmacChecksRow.holds Try.pinned (OpenSpec.ofChange cmacChecksWrong)

/-- 'clavigerlaw11.CmacDoubles': WHATEVER THE INPUT: true; the input reads as it did. -/
def cmacDoublesSpec : ChangeSpec := { name := "cmacDoubles", fn := fun _ => fun
  | [d1, d2] => { results := [.lit (.bool true)], args := [d1, d2] }
  | _ => none }
def cmacDoublesRow : OpenClaim := { program := "ytijpmfnomdngpaa", sum := "4f3ea152d756268d0e75cc8090e30a674aed9fcc9bee24df85a6a0b87b909289", func := "claviger/clavigerlaw11.CmacDoubles", spec := "cmacDoubles", unfollowed := true, recurses := true, apart := false }
def CmacDoublesSaid : Prop := cmacDoublesRow.holds Try.pinned (OpenSpec.ofChange cmacDoublesSpec)

/-- ITS FALSE NEIGHBOUR: 'it returns false'. Refute it at one input. -/
def cmacDoublesWrong : ChangeSpec := { name := "cmacDoubles", fn := fun _ => fun
  | [d1, d2] => { results := [.lit (.bool false)], args := [d1, d2] }
  | _ => none }
def CmacDoublesWrongFalsely : Prop := cmacDoublesRow.holds Try.pinned (OpenSpec.ofChange cmacDoublesWrong)

/-- 'clavigerlaw12.KdfTells': WHATEVER THE INPUT: true; the input reads as it did. -/
def kdfTellsSpec : ChangeSpec := { name := "kdfTells", fn := fun _ => fun
  | [d1, d2, d3, d4] => { results := [.lit (.bool true)], args := [d1, d2, d3, d4] }
  | _ => none }
def kdfTellsRow : OpenClaim := { program := "ytijpmfnomdngpaa", sum := "4f3ea152d756268d0e75cc8090e30a674aed9fcc9bee24df85a6a0b87b909289", func := "claviger/clavigerlaw12.KdfTells", spec := "kdfTells", unfollowed := true, recurses := true, apart := false }
def KdfTellsSaid : Prop := kdfTellsRow.holds Try.pinned (OpenSpec.ofChange kdfTellsSpec)

/-- ITS FALSE NEIGHBOUR: 'it returns false'. Refute it at one input. -/
def kdfTellsWrong : ChangeSpec := { name := "kdfTells", fn := fun _ => fun
  | [d1, d2, d3, d4] => { results := [.lit (.bool false)], args := [d1, d2, d3, d4] }
  | _ => none }
def KdfTellsWrongFalsely : Prop := kdfTellsRow.holds Try.pinned (OpenSpec.ofChange kdfTellsWrong)

/-- 'clavigerlaw12.KdfBegins': WHATEVER THE INPUT: true; the input reads as it did. -/
def kdfBeginsSpec : ChangeSpec := { name := "kdfBegins", fn := fun _ => fun
  | [d1, d2, d3, d4] => { results := [.lit (.bool true)], args := [d1, d2, d3, d4] }
  | _ => none }
def kdfBeginsRow : OpenClaim := { program := "ytijpmfnomdngpaa", sum := "4f3ea152d756268d0e75cc8090e30a674aed9fcc9bee24df85a6a0b87b909289", func := "claviger/clavigerlaw12.KdfBegins", spec := "kdfBegins", unfollowed := true, recurses := true, apart := false }
def KdfBeginsSaid : Prop := kdfBeginsRow.holds Try.pinned (OpenSpec.ofChange kdfBeginsSpec)

/-- ITS FALSE NEIGHBOUR: 'it returns false'. Refute it at one input. -/
def kdfBeginsWrong : ChangeSpec := { name := "kdfBegins", fn := fun _ => fun
  | [d1, d2, d3, d4] => { results := [.lit (.bool false)], args := [d1, d2, d3, d4] }
  | _ => none }
def KdfBeginsWrongFalsely : Prop := kdfBeginsRow.holds Try.pinned (OpenSpec.ofChange kdfBeginsWrong)

/- THE SECOND FORM. 'bulk': how many values and letters a reading holds, each counted each time it is reached (what is shared counts as often as it is met; a slice's spare places count too). A statement '..UptoSaid' is the law's where the arguments, and the package variables that the reading takes, are together of bulk at most 1048576: NARROWER than '..Said'. Prove '..Said' where nothing that the law and all that it calls make is longer than what came in: it says more and counts as full. Else prove '..UptoSaid'. A law counts once. -/
mutual
def uptoBulk {H : Type} : DataW H → Nat
  | .lit (.string bytes) => bytes.length + 1
  | .lit _ => 1
  | .nil => 1
  | .ptr d => uptoBulk d + 1
  | .slice elems spare => uptoBulkAll elems + uptoBulkAll spare + 1
  | .agg parts => uptoBulkAll parts + 1
  | .iface _ d => uptoBulk d + 1
  | .map entries => uptoBulkEntries entries + 1
  | .held _ => 1
def uptoBulkAll {H : Type} : List (DataW H) → Nat
  | [] => 0
  | d :: r => uptoBulk d + uptoBulkAll r
def uptoBulkEntries {H : Type} : List (Lit × DataW H) → Nat
  | [] => 0
  | x :: r => uptoBulkEntry x + uptoBulkEntries r
def uptoBulkEntry {H : Type} : Lit × DataW H → Nat
  | (.string bytes, d) => bytes.length + uptoBulk d + 1
  | (_, d) => uptoBulk d + 1
 end
def uptoSmall : (H : Type) → List (DataW H) → Bool := fun _ ds => decide (uptoBulkAll ds ≤ 1048576)
def OpenSpec.upto (s : _root_.Go.ChangeSpec) : _root_.Go.OpenSpec := { _root_.Go.OpenSpec.ofChange s with cond := some uptoSmall }

/-- 'clavigerlaw09.AesTells', WHERE WHAT IT READS IS OF BULK AT MOST 1048576: true; the input reads as it did. -/
def aesTellsUptoRow : OpenClaim := { program := "ytijpmfnomdngpaa", sum := "4f3ea152d756268d0e75cc8090e30a674aed9fcc9bee24df85a6a0b87b909289", func := "claviger/clavigerlaw09.AesTells", spec := "aesTells", unfollowed := true, recurses := true, apart := false, narrowed := true }
def AesTellsUptoSaid : Prop := aesTellsUptoRow.holds Try.pinned (OpenSpec.upto aesTellsSpec)

/-- 'clavigerlaw09.AesMany', WHERE WHAT IT READS IS OF BULK AT MOST 1048576: true; the input reads as it did. -/
def aesManyUptoRow : OpenClaim := { program := "ytijpmfnomdngpaa", sum := "4f3ea152d756268d0e75cc8090e30a674aed9fcc9bee24df85a6a0b87b909289", func := "claviger/clavigerlaw09.AesMany", spec := "aesMany", unfollowed := true, recurses := true, apart := false, narrowed := true }
def AesManyUptoSaid : Prop := aesManyUptoRow.holds Try.pinned (OpenSpec.upto aesManySpec)

/-- 'clavigerlaw09.AesBack', WHERE WHAT IT READS IS OF BULK AT MOST 1048576: true; the input reads as it did. -/
def aesBackUptoRow : OpenClaim := { program := "ytijpmfnomdngpaa", sum := "4f3ea152d756268d0e75cc8090e30a674aed9fcc9bee24df85a6a0b87b909289", func := "claviger/clavigerlaw09.AesBack", spec := "aesBack", unfollowed := true, recurses := true, apart := false, narrowed := true }
def AesBackUptoSaid : Prop := aesBackUptoRow.holds Try.pinned (OpenSpec.upto aesBackSpec)

/-- 'clavigerlaw10.CbcTells', WHERE WHAT IT READS IS OF BULK AT MOST 1048576: true; the input reads as it did. -/
def cbcTellsUptoRow : OpenClaim := { program := "ytijpmfnomdngpaa", sum := "4f3ea152d756268d0e75cc8090e30a674aed9fcc9bee24df85a6a0b87b909289", func := "claviger/clavigerlaw10.CbcTells", spec := "cbcTells", unfollowed := true, recurses := true, apart := false, narrowed := true }
def CbcTellsUptoSaid : Prop := cbcTellsUptoRow.holds Try.pinned (OpenSpec.upto cbcTellsSpec)

/-- 'clavigerlaw10.CbcBack', WHERE WHAT IT READS IS OF BULK AT MOST 1048576: true; the input reads as it did. -/
def cbcBackUptoRow : OpenClaim := { program := "ytijpmfnomdngpaa", sum := "4f3ea152d756268d0e75cc8090e30a674aed9fcc9bee24df85a6a0b87b909289", func := "claviger/clavigerlaw10.CbcBack", spec := "cbcBack", unfollowed := true, recurses := true, apart := false, narrowed := true }
def CbcBackUptoSaid : Prop := cbcBackUptoRow.holds Try.pinned (OpenSpec.upto cbcBackSpec)

/-- 'clavigerlaw11.CmacTells', WHERE WHAT IT READS IS OF BULK AT MOST 1048576: true; the input reads as it did. -/
def cmacTellsUptoRow : OpenClaim := { program := "ytijpmfnomdngpaa", sum := "4f3ea152d756268d0e75cc8090e30a674aed9fcc9bee24df85a6a0b87b909289", func := "claviger/clavigerlaw11.CmacTells", spec := "cmacTells", unfollowed := true, recurses := true, apart := false, narrowed := true }
def CmacTellsUptoSaid : Prop := cmacTellsUptoRow.holds Try.pinned (OpenSpec.upto cmacTellsSpec)

/-- 'clavigerlaw11.CmacChecks', WHERE WHAT IT READS IS OF BULK AT MOST 1048576: true; the input reads as it did. -/
def cmacChecksUptoRow : OpenClaim := { program := "ytijpmfnomdngpaa", sum := "4f3ea152d756268d0e75cc8090e30a674aed9fcc9bee24df85a6a0b87b909289", func := "claviger/clavigerlaw11.CmacChecks", spec := "cmacChecks", unfollowed := true, recurses := true, apart := false, narrowed := true }
def CmacChecksUptoSaid : Prop := cmacChecksUptoRow.holds Try.pinned (OpenSpec.upto cmacChecksSpec)

/-- 'clavigerlaw11.CmacDoubles', WHERE WHAT IT READS IS OF BULK AT MOST 1048576: true; the input reads as it did. -/
def cmacDoublesUptoRow : OpenClaim := { program := "ytijpmfnomdngpaa", sum := "4f3ea152d756268d0e75cc8090e30a674aed9fcc9bee24df85a6a0b87b909289", func := "claviger/clavigerlaw11.CmacDoubles", spec := "cmacDoubles", unfollowed := true, recurses := true, apart := false, narrowed := true }
def CmacDoublesUptoSaid : Prop := cmacDoublesUptoRow.holds Try.pinned (OpenSpec.upto cmacDoublesSpec)

/-- 'clavigerlaw12.KdfTells', WHERE WHAT IT READS IS OF BULK AT MOST 1048576: true; the input reads as it did. -/
def kdfTellsUptoRow : OpenClaim := { program := "ytijpmfnomdngpaa", sum := "4f3ea152d756268d0e75cc8090e30a674aed9fcc9bee24df85a6a0b87b909289", func := "claviger/clavigerlaw12.KdfTells", spec := "kdfTells", unfollowed := true, recurses := true, apart := false, narrowed := true }
def KdfTellsUptoSaid : Prop := kdfTellsUptoRow.holds Try.pinned (OpenSpec.upto kdfTellsSpec)

/-- 'clavigerlaw12.KdfBegins', WHERE WHAT IT READS IS OF BULK AT MOST 1048576: true; the input reads as it did. -/
def kdfBeginsUptoRow : OpenClaim := { program := "ytijpmfnomdngpaa", sum := "4f3ea152d756268d0e75cc8090e30a674aed9fcc9bee24df85a6a0b87b909289", func := "claviger/clavigerlaw12.KdfBegins", spec := "kdfBegins", unfollowed := true, recurses := true, apart := false, narrowed := true }
def KdfBeginsUptoSaid : Prop := kdfBeginsUptoRow.holds Try.pinned (OpenSpec.upto kdfBeginsSpec)

end Rows
end Go.Proofs.Ytijpmfnomdngpaa
