/-
  DERIVED. GIVEN WITH THE SEED: THE CARDS: each row of YtfnmakelbijmkaaGreatDoorRows.lean that lists a variable, with what it lists TIED to the program's text (the seventh form; the later family's looks); each row that meets fmt, with fmt's text TOLD by the authors' own Lean function (tested against real Go, not proved from fmt's source: count such statements apart). THE CARD IS WHAT COUNTS. Prove the row's statement (the work); the ties are given (YtfnmakelbijmkaaGreatDoorTie.lean); close each card by the builder's one call (the guide's Derived/Test/ToyasCard.lean, 'card_holds'). Laid BY PROGRAM, IN A SANDBOX (cutbox-door.mjs). By AI agents, Wed Nov 11 2026. No macro, syntax, notation, axiom, sorry.
-/
import Derived.Test.YtfnmakelbijmkaaGreatDoorRows
import GoSem.ClaimSeven
namespace Go.Proofs.YtfnmakelbijmkaaGreatDoor
namespace Rows

/-- THE TIED CARD OF 'clavigerlaw27.RecordChanges'. -/
def recordChangesCard : Claim7 := { stood := { row := recordChangesRow, standIns := [], harness := (true, "9381c8e4bc66175571ae063f0b0c8f4e64c642a46bf61678621c06bd99461ef6"), looks := false }, kinds := [], alts := [], laidByText := true, laidKinds := [.data, .data, .data, .pinned], laidTests := true, laidLooks := .later }
def RecordChangesCardSaid : Prop := Claim7.holds Tryz.pinned (.plain (OpenSpec.ofChange recordChangesSpec)) recordChangesCard

/-- THE SECOND FORM's CARD OF 'clavigerlaw27.RecordChanges'. -/
def recordChangesUptoCard : Claim7 := { stood := { row := recordChangesUptoRow, standIns := [], harness := (true, "9381c8e4bc66175571ae063f0b0c8f4e64c642a46bf61678621c06bd99461ef6"), looks := false }, kinds := [], alts := [], laidByText := true, laidKinds := [.data, .data, .data, .pinned], laidTests := true, laidLooks := .later }
def RecordChangesUptoCardSaid : Prop := Claim7.holds Tryz.pinned (.plain (OpenSpec.upto recordChangesSpec)) recordChangesUptoCard
end Rows
end Go.Proofs.YtfnmakelbijmkaaGreatDoor
