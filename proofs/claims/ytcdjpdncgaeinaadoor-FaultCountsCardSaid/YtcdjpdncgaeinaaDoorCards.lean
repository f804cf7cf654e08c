/-
  DERIVED. GIVEN WITH THE SEED: THE CARDS: each row of YtcdjpdncgaeinaaDoorRows.lean that lists a variable, with what it lists TIED to the program's text (the seventh form; the later family's looks); each row that meets fmt, with fmt's text TOLD by the authors' own Lean function (tested against real Go, not proved from fmt's source: count such statements apart). THE CARD IS WHAT COUNTS. Prove the row's statement (the work); the ties are given (YtcdjpdncgaeinaaDoorTie.lean); close each card by the builder's one call (the guide's Derived/Test/ToyasCard.lean, 'card_holds'). Laid BY PROGRAM, IN A SANDBOX (cutbox-door.mjs). By AI agents, Wed Nov 11 2026. No macro, syntax, notation, axiom, sorry.
-/
import Derived.Test.YtcdjpdncgaeinaaDoorRows
import GoSem.ClaimSeven
namespace Go.Proofs.YtcdjpdncgaeinaaDoor
namespace Rows

/-- THE TIED CARD OF 'clavigerlaw40.FaultTells'. -/
def faultTellsCard : Claim7 := { stood := { row := faultTellsRow, standIns := [], harness := (true, "b802617fb90d4abee654a795e3bb11bf6da347094705d1ee28012d9a59956cdf"), looks := false }, kinds := [], alts := [], laidByText := true, laidKinds := [.data, .data], laidTests := true, laidLooks := .later }
def FaultTellsCardSaid : Prop := Claim7.holds Tryd.pinned (.plain (OpenSpec.ofChange faultTellsSpec)) faultTellsCard

/-- THE TIED CARD OF 'clavigerlaw40.FaultCounts'. -/
def faultCountsCard : Claim7 := { stood := { row := faultCountsRow, standIns := [], harness := (true, "b802617fb90d4abee654a795e3bb11bf6da347094705d1ee28012d9a59956cdf"), looks := false }, kinds := [], alts := [], laidByText := true, laidKinds := [.data, .data], laidTests := true, laidLooks := .later }
def FaultCountsCardSaid : Prop := Claim7.holds Tryd.pinned (.plain (OpenSpec.ofChange faultCountsSpec)) faultCountsCard

/-- THE TIED CARD OF 'clavigerlaw40.FaultFound'. -/
def faultFoundCard : Claim7 := { stood := { row := faultFoundRow, standIns := [], harness := (true, "b802617fb90d4abee654a795e3bb11bf6da347094705d1ee28012d9a59956cdf"), looks := false }, kinds := [], alts := [], laidByText := true, laidKinds := [.data, .data], laidTests := true, laidLooks := .later }
def FaultFoundCardSaid : Prop := Claim7.holds Tryd.pinned (.plain (OpenSpec.ofChange faultFoundSpec)) faultFoundCard

/-- THE SECOND FORM's CARD OF 'clavigerlaw40.FaultTells'. -/
def faultTellsUptoCard : Claim7 := { stood := { row := faultTellsUptoRow, standIns := [], harness := (true, "b802617fb90d4abee654a795e3bb11bf6da347094705d1ee28012d9a59956cdf"), looks := false }, kinds := [], alts := [], laidByText := true, laidKinds := [.data, .data], laidTests := true, laidLooks := .later }
def FaultTellsUptoCardSaid : Prop := Claim7.holds Tryd.pinned (.plain (OpenSpec.upto faultTellsSpec)) faultTellsUptoCard

/-- THE SECOND FORM's CARD OF 'clavigerlaw40.FaultCounts'. -/
def faultCountsUptoCard : Claim7 := { stood := { row := faultCountsUptoRow, standIns := [], harness := (true, "b802617fb90d4abee654a795e3bb11bf6da347094705d1ee28012d9a59956cdf"), looks := false }, kinds := [], alts := [], laidByText := true, laidKinds := [.data, .data], laidTests := true, laidLooks := .later }
def FaultCountsUptoCardSaid : Prop := Claim7.holds Tryd.pinned (.plain (OpenSpec.upto faultCountsSpec)) faultCountsUptoCard

/-- THE SECOND FORM's CARD OF 'clavigerlaw40.FaultFound'. -/
def faultFoundUptoCard : Claim7 := { stood := { row := faultFoundUptoRow, standIns := [], harness := (true, "b802617fb90d4abee654a795e3bb11bf6da347094705d1ee28012d9a59956cdf"), looks := false }, kinds := [], alts := [], laidByText := true, laidKinds := [.data, .data], laidTests := true, laidLooks := .later }
def FaultFoundUptoCardSaid : Prop := Claim7.holds Tryd.pinned (.plain (OpenSpec.upto faultFoundSpec)) faultFoundUptoCard
end Rows
end Go.Proofs.YtcdjpdncgaeinaaDoor
