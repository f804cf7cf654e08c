/-
  No cell of these rows narrows 'for every input' (looked for: loops, veiled, ifaces, maps, wideKeys, modest, calm, conditions, laid).
  DERIVED. THE GIVEN ROWS OF THIS SEAT. 4 by the template 'for every input the law returns true; each argument reads behind the call as it read before'; 0 by the template 'total and deterministic' (their statements: YtpanhhjkecebkaaGreatTotals.lean).
  GIVEN WITH THE SEED: the statements are not yours to turn. If you find one false, say at which input.
  Laid BY PROGRAM, IN A SANDBOX (cutbox-rows.mjs): the forced cells as the released guide's own fill.sh prints them over the translation 0c5f29a60dcf0ede… (all of the seat's roots in one cut). By AI agents, Wed Nov 11 2026. No macro, syntax, notation, axiom, sorry.
-/
import Derived.Test.YtpanhhjkecebkaaGreatChecked
import GoSem.Claim
import GoSem.ClaimJoined
import GoSem.ClaimMapViews
import Derived.JoinedTies
import Derived.KernelRfl
namespace Go.Proofs.YtpanhhjkecebkaaGreat
/- THE CELL 'sum', in the pinned program and in every row, IS THE sha256 OF THE DUMP (.gsa) THAT YtpanhhjkecebkaaGreatProg.lean LOADS. Nothing in Lean hashes anything: it is a label: what it is worth is what the hold of that sum in a sandbox is worth. -/
noncomputable def Tryz.pinned : Pinned := { name := "ytpanhhjkecebkaagreat", sum := "0c5f29a60dcf0eded6df8d80e54b09253381490fd46cb01b9ba02551072ea520", checked := Tryz.checked }
namespace Rows
def none {H : Type} : Left H := { results := [], args := [] }

/-- 'clavigerlaw24.AttrTells': WHATEVER THE INPUT: true; the input reads as it did. -/
def attrTellsSpec : ChangeSpec := { name := "attrTells", fn := fun _ => fun
  | [d1, d2, d3] => { results := [.lit (.bool true)], args := [d1, d2, d3] }
  | _ => none }
def attrTellsRow : OpenClaim := { program := "ytpanhhjkecebkaagreat", sum := "0c5f29a60dcf0eded6df8d80e54b09253381490fd46cb01b9ba02551072ea520", func := "claviger/clavigerlaw24.AttrTells", spec := "attrTells", inPlace := ["internal/abi.NoEscape", "internal/bytealg.MakeNoZero"], unfollowed := true, recurses := true, apart := false }
def AttrTellsSaid : Prop := attrTellsRow.holds Tryz.pinned (OpenSpec.ofChange attrTellsSpec)

/-- ITS FALSE NEIGHBOUR: 'it returns false'. Refute it at one input. -/
def attrTellsWrong : ChangeSpec := { name := "attrTells", fn := fun _ => fun
  | [d1, d2, d3] => { results := [.lit (.bool false)], args := [d1, d2, d3] }
  | _ => none }
def AttrTellsWrongFalsely : Prop := attrTellsRow.holds Tryz.pinned (OpenSpec.ofChange attrTellsWrong)

/-- 'clavigerlaw24.AttrPacks': WHATEVER THE INPUT: true; the input reads as it did. -/
def attrPacksSpec : ChangeSpec := { name := "attrPacks", fn := fun _ => fun
  | [d1, d2, d3] => { results := [.lit (.bool true)], args := [d1, d2, d3] }
  | _ => none }
def attrPacksRow : OpenClaim := { program := "ytpanhhjkecebkaagreat", sum := "0c5f29a60dcf0eded6df8d80e54b09253381490fd46cb01b9ba02551072ea520", func := "claviger/clavigerlaw24.AttrPacks", spec := "attrPacks", inPlace := ["internal/abi.NoEscape", "internal/bytealg.MakeNoZero"], unfollowed := true, recurses := true, apart := false }
def AttrPacksSaid : Prop := attrPacksRow.holds Tryz.pinned (OpenSpec.ofChange attrPacksSpec)

/-- ITS FALSE NEIGHBOUR: 'it returns false'. Refute it at one input. -/
def attrPacksWrong : ChangeSpec := { name := "attrPacks", fn := fun _ => fun
  | [d1, d2, d3] => { results := [.lit (.bool false)], args := [d1, d2, d3] }
  | _ => none }
def AttrPacksWrongFalsely : Prop := attrPacksRow.holds Tryz.pinned (OpenSpec.ofChange attrPacksWrong)

/-- 'clavigerlaw24.AttrBack': WHATEVER THE INPUT: true; the input reads as it did. -/
def attrBackSpec : ChangeSpec := { name := "attrBack", fn := fun _ => fun
  | [d1, d2, d3, d4] => { results := [.lit (.bool true)], args := [d1, d2, d3, d4] }
  | _ => none }
def attrBackRow : OpenClaim := { program := "ytpanhhjkecebkaagreat", sum := "0c5f29a60dcf0eded6df8d80e54b09253381490fd46cb01b9ba02551072ea520", func := "claviger/clavigerlaw24.AttrBack", spec := "attrBack", inPlace := ["internal/abi.NoEscape", "internal/bytealg.MakeNoZero"], unfollowed := true, recurses := true, apart := false }
def AttrBackSaid : Prop := attrBackRow.holds Tryz.pinned (OpenSpec.ofChange attrBackSpec)

/-- ITS FALSE NEIGHBOUR: 'it returns false'. Refute it at one input. -/
def attrBackWrong : ChangeSpec := { name := "attrBack", fn := fun _ => fun
  | [d1, d2, d3, d4] => { results := [.lit (.bool false)], args := [d1, d2, d3, d4] }
  | _ => none }
def AttrBackWrongFalsely : Prop := attrBackRow.holds Tryz.pinned (OpenSpec.ofChange attrBackWrong)

/-- 'clavigerlaw26.Pkcs8Tells': WHATEVER THE INPUT: true; the input reads as it did. -/
def pkcs8TellsSpec : ChangeSpec := { name := "pkcs8Tells", fn := fun _ => fun
  | [d1, d2] => { results := [.lit (.bool true)], args := [d1, d2] }
  | _ => none }
def pkcs8TellsRow : OpenClaim := { program := "ytpanhhjkecebkaagreat", sum := "0c5f29a60dcf0eded6df8d80e54b09253381490fd46cb01b9ba02551072ea520", func := "claviger/clavigerlaw26.Pkcs8Tells", spec := "pkcs8Tells", inPlace := ["internal/abi.NoEscape", "internal/bytealg.MakeNoZero"], unfollowed := true, recurses := true, apart := false }
def Pkcs8TellsSaid : Prop := pkcs8TellsRow.holds Tryz.pinned (OpenSpec.ofChange pkcs8TellsSpec)

/-- ITS FALSE NEIGHBOUR: 'it returns false'. Refute it at one input. -/
def pkcs8TellsWrong : ChangeSpec := { name := "pkcs8Tells", fn := fun _ => fun
  | [d1, d2] => { results := [.lit (.bool false)], args := [d1, d2] }
  | _ => none }
def Pkcs8TellsWrongFalsely : Prop := pkcs8TellsRow.holds Tryz.pinned (OpenSpec.ofChange pkcs8TellsWrong)

/- THE SECOND FORM. 'bulk': how many values and letters a reading holds, each counted each time it is reached (what is shared counts as often as it is met; a slice's spare places count too). A statement '..UptoSaid' is the law's where the arguments, and the package variables that the reading takes, are together of bulk at most 1048576: NARROWER than '..Said'. Prove '..Said' where nothing that the law and all that it calls make is longer than what came in: it says more and counts as full. Else prove '..UptoSaid'. A law counts once. -/
mutual
def uptoBulk {H : Type} : DataW H → Nat
  | .lit (.string bytes) => bytes.length + 1
  | .lit _ => 1
  | .nil => 1
  | .ptr d => uptoBulk d + 1
  | .slice elems spare => uptoBulkAll elems + uptoBulkAll spare + 1
  | .agg parts => uptoBulkAll parts + 1
  | .iface _ d => uptoBulk d + 1
  | .map entries => uptoBulkEntries entries + 1
  | .held _ => 1
def uptoBulkAll {H : Type} : List (DataW H) → Nat
  | [] => 0
  | d :: r => uptoBulk d + uptoBulkAll r
def uptoBulkEntries {H : Type} : List (Lit × DataW H) → Nat
  | [] => 0
  | x :: r => uptoBulkEntry x + uptoBulkEntries r
def uptoBulkEntry {H : Type} : Lit × DataW H → Nat
  | (.string bytes, d) => bytes.length + uptoBulk d + 1
  | (_, d) => uptoBulk d + 1
 end
def uptoSmall : (H : Type) → List (DataW H) → Bool := fun _ ds => decide (uptoBulkAll ds ≤ 1048576)
def OpenSpec.upto (s : _root_.Go.ChangeSpec) : _root_.Go.OpenSpec := { _root_.Go.OpenSpec.ofChange s with cond := some uptoSmall }

/-- 'clavigerlaw24.AttrTells', WHERE WHAT IT READS IS OF BULK AT MOST 1048576: true; the input reads as it did. -/
def attrTellsUptoRow : OpenClaim := { program := "ytpanhhjkecebkaagreat", sum := "0c5f29a60dcf0eded6df8d80e54b09253381490fd46cb01b9ba02551072ea520", func := "claviger/clavigerlaw24.AttrTells", spec := "attrTells", inPlace := ["internal/abi.NoEscape", "internal/bytealg.MakeNoZero"], unfollowed := true, recurses := true, apart := false, narrowed := true }
def AttrTellsUptoSaid : Prop := attrTellsUptoRow.holds Tryz.pinned (OpenSpec.upto attrTellsSpec)

/-- 'clavigerlaw24.AttrPacks', WHERE WHAT IT READS IS OF BULK AT MOST 1048576: true; the input reads as it did. -/
def attrPacksUptoRow : OpenClaim := { program := "ytpanhhjkecebkaagreat", sum := "0c5f29a60dcf0eded6df8d80e54b09253381490fd46cb01b9ba02551072ea520", func := "claviger/clavigerlaw24.AttrPacks", spec := "attrPacks", inPlace := ["internal/abi.NoEscape", "internal/bytealg.MakeNoZero"], unfollowed := true, recurses := true, apart := false, narrowed := true }
def AttrPacksUptoSaid : Prop := attrPacksUptoRow.holds Tryz.pinned (OpenSpec.upto attrPacksSpec)

/-- 'clavigerlaw24.AttrBack', WHERE WHAT IT READS IS OF BULK AT MOST 1048576: true; the input reads as it did. -/
def attrBackUptoRow : OpenClaim := { program := "ytpanhhjkecebkaagreat", sum := "0c5f29a60dcf0eded6df8d80e54b09253381490fd46cb01b9ba02551072ea520", func := "claviger/clavigerlaw24.AttrBack", spec := "attrBack", inPlace := ["internal/abi.NoEscape", "internal/bytealg.MakeNoZero"], unfollowed := true, recurses := true, apart := false, narrowed := true }
def AttrBackUptoSaid : Prop := attrBackUptoRow.holds Tryz.pinned (OpenSpec.upto attrBackSpec)

/-- 'clavigerlaw26.Pkcs8Tells', WHERE WHAT IT READS IS OF BULK AT MOST 1048576: true; the input reads as it did. -/
def pkcs8TellsUptoRow : OpenClaim := { program := "ytpanhhjkecebkaagreat", sum := "0c5f29a60dcf0eded6df8d80e54b09253381490fd46cb01b9ba02551072ea520", func := "claviger/clavigerlaw26.Pkcs8Tells", spec := "pkcs8Tells", inPlace := ["internal/abi.NoEscape", "internal/bytealg.MakeNoZero"], unfollowed := true, recurses := true, apart := false, narrowed := true }
def Pkcs8TellsUptoSaid : Prop := pkcs8TellsUptoRow.holds Tryz.pinned (OpenSpec.upto pkcs8TellsSpec)

end Rows
end Go.Proofs.YtpanhhjkecebkaaGreat
