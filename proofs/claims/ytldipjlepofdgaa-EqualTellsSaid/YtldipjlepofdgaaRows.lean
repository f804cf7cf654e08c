/-
  No cell of these rows narrows 'for every input' (looked for: loops, veiled, ifaces, maps, wideKeys, modest, calm, conditions, laid).
  DERIVED. THE GIVEN ROWS OF THIS SEAT. 9 by the template 'for every input the law returns true; each argument reads behind the call as it read before'; 0 by the template 'total and deterministic' (their statements: YtldipjlepofdgaaTotals.lean).
  GIVEN WITH THE SEED: the statements are not yours to turn. If you find one false, say at which input.
  Laid BY PROGRAM, IN A SANDBOX (cutbox-rows.mjs): the forced cells as the released guide's own fill.sh prints them over the translation b0d1fa7024cde518… (all of the seat's roots in one cut). By AI agents, Wed Nov 11 2026. No macro, syntax, notation, axiom, sorry.
-/
import Derived.Test.YtldipjlepofdgaaChecked
import GoSem.Claim
import GoSem.ClaimJoined
import GoSem.ClaimMapViews
import Derived.JoinedTies
import Derived.KernelRfl
namespace Go.Proofs.Ytldipjlepofdgaa
/- THE CELL 'sum', in the pinned program and in every row, IS THE sha256 OF THE DUMP (.gsa) THAT YtldipjlepofdgaaProg.lean LOADS. Nothing in Lean hashes anything: it is a label: what it is worth is what the hold of that sum in a sandbox is worth. -/
noncomputable def Try.pinned : Pinned := { name := "ytldipjlepofdgaa", sum := "b0d1fa7024cde518232e03b5bb3138f7c5213b8006ca2569913a318d4b2908ea", checked := Try.checked }
namespace Rows
def none {H : Type} : Left H := { results := [], args := [] }

/-- 'clavigerlaw01.OctetsTell': WHATEVER THE INPUT: true; the input reads as it did. -/
def octetsTellSpec : ChangeSpec := { name := "octetsTell", fn := fun _ => fun
  | [d1, d2, d3] => { results := [.lit (.bool true)], args := [d1, d2, d3] }
  | _ => none }
def octetsTellRow : OpenClaim := { program := "ytldipjlepofdgaa", sum := "b0d1fa7024cde518232e03b5bb3138f7c5213b8006ca2569913a318d4b2908ea", func := "claviger/clavigerlaw01.OctetsTell", spec := "octetsTell", apart := false }
def OctetsTellSaid : Prop := octetsTellRow.holds Try.pinned (OpenSpec.ofChange octetsTellSpec)

/-- ITS FALSE NEIGHBOUR: 'it returns false'. Refute it at one input. -/
def octetsTellWrong : ChangeSpec := { name := "octetsTell", fn := fun _ => fun
  | [d1, d2, d3] => { results := [.lit (.bool false)], args := [d1, d2, d3] }
  | _ => none }
def OctetsTellWrongFalsely : Prop := octetsTellRow.holds Try.pinned (OpenSpec.ofChange octetsTellWrong)

/-- 'clavigerlaw01.OctetsCut': WHATEVER THE INPUT: true; the input reads as it did. -/
def octetsCutSpec : ChangeSpec := { name := "octetsCut", fn := fun _ => fun
  | [d1, d2, d3] => { results := [.lit (.bool true)], args := [d1, d2, d3] }
  | _ => none }
def octetsCutRow : OpenClaim := { program := "ytldipjlepofdgaa", sum := "b0d1fa7024cde518232e03b5bb3138f7c5213b8006ca2569913a318d4b2908ea", func := "claviger/clavigerlaw01.OctetsCut", spec := "octetsCut", apart := false }
def OctetsCutSaid : Prop := octetsCutRow.holds Try.pinned (OpenSpec.ofChange octetsCutSpec)

/-- ITS FALSE NEIGHBOUR: 'it returns false'. Refute it at one input. -/
def octetsCutWrong : ChangeSpec := { name := "octetsCut", fn := fun _ => fun
  | [d1, d2, d3] => { results := [.lit (.bool false)], args := [d1, d2, d3] }
  | _ => none }
def OctetsCutWrongFalsely : Prop := octetsCutRow.holds Try.pinned (OpenSpec.ofChange octetsCutWrong)

/-- 'clavigerlaw01.OctetsXor': WHATEVER THE INPUT: true; the input reads as it did. -/
def octetsXorSpec : ChangeSpec := { name := "octetsXor", fn := fun _ => fun
  | [d1, d2, d3] => { results := [.lit (.bool true)], args := [d1, d2, d3] }
  | _ => none }
def octetsXorRow : OpenClaim := { program := "ytldipjlepofdgaa", sum := "b0d1fa7024cde518232e03b5bb3138f7c5213b8006ca2569913a318d4b2908ea", func := "claviger/clavigerlaw01.OctetsXor", spec := "octetsXor", apart := false }
def OctetsXorSaid : Prop := octetsXorRow.holds Try.pinned (OpenSpec.ofChange octetsXorSpec)

/-- ITS FALSE NEIGHBOUR: 'it returns false'. Refute it at one input. -/
def octetsXorWrong : ChangeSpec := { name := "octetsXor", fn := fun _ => fun
  | [d1, d2, d3] => { results := [.lit (.bool false)], args := [d1, d2, d3] }
  | _ => none }
def OctetsXorWrongFalsely : Prop := octetsXorRow.holds Try.pinned (OpenSpec.ofChange octetsXorWrong)

/-- 'clavigerlaw01.OctetsBack': WHATEVER THE INPUT: true; the input reads as it did. -/
def octetsBackSpec : ChangeSpec := { name := "octetsBack", fn := fun _ => fun
  | [d1, d2, d3, d4] => { results := [.lit (.bool true)], args := [d1, d2, d3, d4] }
  | _ => none }
def octetsBackRow : OpenClaim := { program := "ytldipjlepofdgaa", sum := "b0d1fa7024cde518232e03b5bb3138f7c5213b8006ca2569913a318d4b2908ea", func := "claviger/clavigerlaw01.OctetsBack", spec := "octetsBack", apart := false }
def OctetsBackSaid : Prop := octetsBackRow.holds Try.pinned (OpenSpec.ofChange octetsBackSpec)

/-- ITS FALSE NEIGHBOUR: 'it returns false'. Refute it at one input. -/
def octetsBackWrong : ChangeSpec := { name := "octetsBack", fn := fun _ => fun
  | [d1, d2, d3, d4] => { results := [.lit (.bool false)], args := [d1, d2, d3, d4] }
  | _ => none }
def OctetsBackWrongFalsely : Prop := octetsBackRow.holds Try.pinned (OpenSpec.ofChange octetsBackWrong)

/-- 'clavigerlaw02.DigitsHex': WHATEVER THE INPUT: true; the input reads as it did. -/
def digitsHexSpec : ChangeSpec := { name := "digitsHex", fn := fun _ => fun
  | [d1, d2, d3] => { results := [.lit (.bool true)], args := [d1, d2, d3] }
  | _ => none }
def digitsHexRow : OpenClaim := { program := "ytldipjlepofdgaa", sum := "b0d1fa7024cde518232e03b5bb3138f7c5213b8006ca2569913a318d4b2908ea", func := "claviger/clavigerlaw02.DigitsHex", spec := "digitsHex", apart := false }
def DigitsHexSaid : Prop := digitsHexRow.holds Try.pinned (OpenSpec.ofChange digitsHexSpec)

/-- ITS FALSE NEIGHBOUR: 'it returns false'. Refute it at one input. -/
def digitsHexWrong : ChangeSpec := { name := "digitsHex", fn := fun _ => fun
  | [d1, d2, d3] => { results := [.lit (.bool false)], args := [d1, d2, d3] }
  | _ => none }
def DigitsHexWrongFalsely : Prop := digitsHexRow.holds Try.pinned (OpenSpec.ofChange digitsHexWrong)

/-- 'clavigerlaw02.DigitsDec': WHATEVER THE INPUT: true; the input reads as it did. -/
def digitsDecSpec : ChangeSpec := { name := "digitsDec", fn := fun _ => fun
  | [d1, d2, d3] => { results := [.lit (.bool true)], args := [d1, d2, d3] }
  | _ => none }
def digitsDecRow : OpenClaim := { program := "ytldipjlepofdgaa", sum := "b0d1fa7024cde518232e03b5bb3138f7c5213b8006ca2569913a318d4b2908ea", func := "claviger/clavigerlaw02.DigitsDec", spec := "digitsDec", apart := false }
def DigitsDecSaid : Prop := digitsDecRow.holds Try.pinned (OpenSpec.ofChange digitsDecSpec)

/-- ITS FALSE NEIGHBOUR: 'it returns false'. Refute it at one input. -/
def digitsDecWrong : ChangeSpec := { name := "digitsDec", fn := fun _ => fun
  | [d1, d2, d3] => { results := [.lit (.bool false)], args := [d1, d2, d3] }
  | _ => none }
def DigitsDecWrongFalsely : Prop := digitsDecRow.holds Try.pinned (OpenSpec.ofChange digitsDecWrong)

/-- 'clavigerlaw02.DigitsBack': WHATEVER THE INPUT: true; the input reads as it did. -/
def digitsBackSpec : ChangeSpec := { name := "digitsBack", fn := fun _ => fun
  | [d1, d2, d3, d4] => { results := [.lit (.bool true)], args := [d1, d2, d3, d4] }
  | _ => none }
def digitsBackRow : OpenClaim := { program := "ytldipjlepofdgaa", sum := "b0d1fa7024cde518232e03b5bb3138f7c5213b8006ca2569913a318d4b2908ea", func := "claviger/clavigerlaw02.DigitsBack", spec := "digitsBack", apart := false }
def DigitsBackSaid : Prop := digitsBackRow.holds Try.pinned (OpenSpec.ofChange digitsBackSpec)

/-- ITS FALSE NEIGHBOUR: 'it returns false'. Refute it at one input. -/
def digitsBackWrong : ChangeSpec := { name := "digitsBack", fn := fun _ => fun
  | [d1, d2, d3, d4] => { results := [.lit (.bool false)], args := [d1, d2, d3, d4] }
  | _ => none }
def DigitsBackWrongFalsely : Prop := digitsBackRow.holds Try.pinned (OpenSpec.ofChange digitsBackWrong)

/-- 'clavigerlaw04.EqualTells': WHATEVER THE INPUT: true; the input reads as it did. -/
def equalTellsSpec : ChangeSpec := { name := "equalTells", fn := fun _ => fun
  | [d1, d2, d3] => { results := [.lit (.bool true)], args := [d1, d2, d3] }
  | _ => none }
def equalTellsRow : OpenClaim := { program := "ytldipjlepofdgaa", sum := "b0d1fa7024cde518232e03b5bb3138f7c5213b8006ca2569913a318d4b2908ea", func := "claviger/clavigerlaw04.EqualTells", spec := "equalTells", unfollowed := true, recurses := true, apart := false }
def EqualTellsSaid : Prop := equalTellsRow.holds Try.pinned (OpenSpec.ofChange equalTellsSpec)

/-- ITS FALSE NEIGHBOUR: 'it returns false'. Refute it at one input. -/
def equalTellsWrong : ChangeSpec := { name := "equalTells", fn := fun _ => fun
  | [d1, d2, d3] => { results := [.lit (.bool false)], args := [d1, d2, d3] }
  | _ => none }
def EqualTellsWrongFalsely : Prop := equalTellsRow.holds Try.pinned (OpenSpec.ofChange equalTellsWrong)

/-- 'clavigerlaw04.EqualTurns': WHATEVER THE INPUT: true; the input reads as it did. -/
def equalTurnsSpec : ChangeSpec := { name := "equalTurns", fn := fun _ => fun
  | [d1, d2, d3] => { results := [.lit (.bool true)], args := [d1, d2, d3] }
  | _ => none }
def equalTurnsRow : OpenClaim := { program := "ytldipjlepofdgaa", sum := "b0d1fa7024cde518232e03b5bb3138f7c5213b8006ca2569913a318d4b2908ea", func := "claviger/clavigerlaw04.EqualTurns", spec := "equalTurns", unfollowed := true, recurses := true, apart := false }
def EqualTurnsSaid : Prop := equalTurnsRow.holds Try.pinned (OpenSpec.ofChange equalTurnsSpec)

/-- ITS FALSE NEIGHBOUR: 'it returns false'. Refute it at one input. -/
def equalTurnsWrong : ChangeSpec := { name := "equalTurns", fn := fun _ => fun
  | [d1, d2, d3] => { results := [.lit (.bool false)], args := [d1, d2, d3] }
  | _ => none }
def EqualTurnsWrongFalsely : Prop := equalTurnsRow.holds Try.pinned (OpenSpec.ofChange equalTurnsWrong)

/- THE SECOND FORM. 'bulk': how many values and letters a reading holds, each counted each time it is reached (what is shared counts as often as it is met; a slice's spare places count too). A statement '..UptoSaid' is the law's where the arguments, and the package variables that the reading takes, are together of bulk at most 1048576: NARROWER than '..Said'. Prove '..Said' where nothing that the law and all that it calls make is longer than what came in: it says more and counts as full. Else prove '..UptoSaid'. A law counts once. -/
mutual
def uptoBulk {H : Type} : DataW H → Nat
  | .lit (.string bytes) => bytes.length + 1
  | .lit _ => 1
  | .nil => 1
  | .ptr d => uptoBulk d + 1
  | .slice elems spare => uptoBulkAll elems + uptoBulkAll spare + 1
  | .agg parts => uptoBulkAll parts + 1
  | .iface _ d => uptoBulk d + 1
  | .map entries => uptoBulkEntries entries + 1
  | .held _ => 1
def uptoBulkAll {H : Type} : List (DataW H) → Nat
  | [] => 0
  | d :: r => uptoBulk d + uptoBulkAll r
def uptoBulkEntries {H : Type} : List (Lit × DataW H) → Nat
  | [] => 0
  | x :: r => uptoBulkEntry x + uptoBulkEntries r
def uptoBulkEntry {H : Type} : Lit × DataW H → Nat
  | (.string bytes, d) => bytes.length + uptoBulk d + 1
  | (_, d) => uptoBulk d + 1
 end
def uptoSmall : (H : Type) → List (DataW H) → Bool := fun _ ds => decide (uptoBulkAll ds ≤ 1048576)
def OpenSpec.upto (s : _root_.Go.ChangeSpec) : _root_.Go.OpenSpec := { _root_.Go.OpenSpec.ofChange s with cond := some uptoSmall }

/-- 'clavigerlaw01.OctetsTell', WHERE WHAT IT READS IS OF BULK AT MOST 1048576: true; the input reads as it did. -/
def octetsTellUptoRow : OpenClaim := { program := "ytldipjlepofdgaa", sum := "b0d1fa7024cde518232e03b5bb3138f7c5213b8006ca2569913a318d4b2908ea", func := "claviger/clavigerlaw01.OctetsTell", spec := "octetsTell", apart := false, narrowed := true }
def OctetsTellUptoSaid : Prop := octetsTellUptoRow.holds Try.pinned (OpenSpec.upto octetsTellSpec)

/-- 'clavigerlaw01.OctetsCut', WHERE WHAT IT READS IS OF BULK AT MOST 1048576: true; the input reads as it did. -/
def octetsCutUptoRow : OpenClaim := { program := "ytldipjlepofdgaa", sum := "b0d1fa7024cde518232e03b5bb3138f7c5213b8006ca2569913a318d4b2908ea", func := "claviger/clavigerlaw01.OctetsCut", spec := "octetsCut", apart := false, narrowed := true }
def OctetsCutUptoSaid : Prop := octetsCutUptoRow.holds Try.pinned (OpenSpec.upto octetsCutSpec)

/-- 'clavigerlaw01.OctetsXor', WHERE WHAT IT READS IS OF BULK AT MOST 1048576: true; the input reads as it did. -/
def octetsXorUptoRow : OpenClaim := { program := "ytldipjlepofdgaa", sum := "b0d1fa7024cde518232e03b5bb3138f7c5213b8006ca2569913a318d4b2908ea", func := "claviger/clavigerlaw01.OctetsXor", spec := "octetsXor", apart := false, narrowed := true }
def OctetsXorUptoSaid : Prop := octetsXorUptoRow.holds Try.pinned (OpenSpec.upto octetsXorSpec)

/-- 'clavigerlaw01.OctetsBack', WHERE WHAT IT READS IS OF BULK AT MOST 1048576: true; the input reads as it did. -/
def octetsBackUptoRow : OpenClaim := { program := "ytldipjlepofdgaa", sum := "b0d1fa7024cde518232e03b5bb3138f7c5213b8006ca2569913a318d4b2908ea", func := "claviger/clavigerlaw01.OctetsBack", spec := "octetsBack", apart := false, narrowed := true }
def OctetsBackUptoSaid : Prop := octetsBackUptoRow.holds Try.pinned (OpenSpec.upto octetsBackSpec)

/-- 'clavigerlaw02.DigitsHex', WHERE WHAT IT READS IS OF BULK AT MOST 1048576: true; the input reads as it did. -/
def digitsHexUptoRow : OpenClaim := { program := "ytldipjlepofdgaa", sum := "b0d1fa7024cde518232e03b5bb3138f7c5213b8006ca2569913a318d4b2908ea", func := "claviger/clavigerlaw02.DigitsHex", spec := "digitsHex", apart := false, narrowed := true }
def DigitsHexUptoSaid : Prop := digitsHexUptoRow.holds Try.pinned (OpenSpec.upto digitsHexSpec)

/-- 'clavigerlaw02.DigitsDec', WHERE WHAT IT READS IS OF BULK AT MOST 1048576: true; the input reads as it did. -/
def digitsDecUptoRow : OpenClaim := { program := "ytldipjlepofdgaa", sum := "b0d1fa7024cde518232e03b5bb3138f7c5213b8006ca2569913a318d4b2908ea", func := "claviger/clavigerlaw02.DigitsDec", spec := "digitsDec", apart := false, narrowed := true }
def DigitsDecUptoSaid : Prop := digitsDecUptoRow.holds Try.pinned (OpenSpec.upto digitsDecSpec)

/-- 'clavigerlaw02.DigitsBack', WHERE WHAT IT READS IS OF BULK AT MOST 1048576: true; the input reads as it did. -/
def digitsBackUptoRow : OpenClaim := { program := "ytldipjlepofdgaa", sum := "b0d1fa7024cde518232e03b5bb3138f7c5213b8006ca2569913a318d4b2908ea", func := "claviger/clavigerlaw02.DigitsBack", spec := "digitsBack", apart := false, narrowed := true }
def DigitsBackUptoSaid : Prop := digitsBackUptoRow.holds Try.pinned (OpenSpec.upto digitsBackSpec)

/-- 'clavigerlaw04.EqualTells', WHERE WHAT IT READS IS OF BULK AT MOST 1048576: true; the input reads as it did. -/
def equalTellsUptoRow : OpenClaim := { program := "ytldipjlepofdgaa", sum := "b0d1fa7024cde518232e03b5bb3138f7c5213b8006ca2569913a318d4b2908ea", func := "claviger/clavigerlaw04.EqualTells", spec := "equalTells", unfollowed := true, recurses := true, apart := false, narrowed := true }
def EqualTellsUptoSaid : Prop := equalTellsUptoRow.holds Try.pinned (OpenSpec.upto equalTellsSpec)

/-- 'clavigerlaw04.EqualTurns', WHERE WHAT IT READS IS OF BULK AT MOST 1048576: true; the input reads as it did. -/
def equalTurnsUptoRow : OpenClaim := { program := "ytldipjlepofdgaa", sum := "b0d1fa7024cde518232e03b5bb3138f7c5213b8006ca2569913a318d4b2908ea", func := "claviger/clavigerlaw04.EqualTurns", spec := "equalTurns", unfollowed := true, recurses := true, apart := false, narrowed := true }
def EqualTurnsUptoSaid : Prop := equalTurnsUptoRow.holds Try.pinned (OpenSpec.upto equalTurnsSpec)

end Rows
end Go.Proofs.Ytldipjlepofdgaa
