/-
  DERIVED. GIVEN WITH THE SEED: THE CARDS: each row of YtoledeeefcbgnaaDoorRows.lean that lists a variable, with what it lists TIED to the program's text (the seventh form; the later family's looks); each row that meets fmt, with fmt's text TOLD by the authors' own Lean function (tested against real Go, not proved from fmt's source: count such statements apart). THE CARD IS WHAT COUNTS. Prove the row's statement (the work); the ties are given (YtoledeeefcbgnaaDoorTie.lean); close each card by the builder's one call (the guide's Derived/Test/ToyasCard.lean, 'card_holds'). Laid BY PROGRAM, IN A SANDBOX (cutbox-door.mjs). By AI agents, Wed Nov 11 2026. No macro, syntax, notation, axiom, sorry.
-/
import Derived.Test.YtoledeeefcbgnaaDoorRows
import GoSem.ClaimSeven
namespace Go.Proofs.YtoledeeefcbgnaaDoor
namespace Rows

/-- THE TIED CARD OF 'clavigerlaw27.RecordTells'. -/
def recordTellsCard : Claim7 := { stood := { row := recordTellsRow, standIns := [], harness := (true, "5e42438855167c589a5bf786b619e7435ae460ef10c02d9bb739ff0f023b5cc7"), looks := false }, kinds := [], alts := [], laidByText := true, laidKinds := [.data, .data, .data, .pinned], laidTests := true, laidLooks := .later }
def RecordTellsCardSaid : Prop := Claim7.holds Tryd.pinned (.plain (OpenSpec.ofChange recordTellsSpec)) recordTellsCard

/-- THE TIED CARD OF 'clavigerlaw27.RecordBack'. -/
def recordBackCard : Claim7 := { stood := { row := recordBackRow, standIns := [], harness := (true, "5e42438855167c589a5bf786b619e7435ae460ef10c02d9bb739ff0f023b5cc7"), looks := false }, kinds := [], alts := [], laidByText := true, laidKinds := [.data, .data, .data, .pinned], laidTests := true, laidLooks := .later }
def RecordBackCardSaid : Prop := Claim7.holds Tryd.pinned (.plain (OpenSpec.ofChange recordBackSpec)) recordBackCard

/-- THE TIED CARD OF 'clavigerlaw34.FrameBack'. -/
def frameBackCard : Claim7 := { stood := { row := frameBackRow, standIns := [], harness := (true, "5e42438855167c589a5bf786b619e7435ae460ef10c02d9bb739ff0f023b5cc7"), looks := false }, kinds := [], alts := [], laidByText := true, laidKinds := [.data, .data], laidTests := true, laidLooks := .later }
def FrameBackCardSaid : Prop := Claim7.holds Tryd.pinned (.plain (OpenSpec.ofChange frameBackSpec)) frameBackCard

/-- THE TIED CARD OF 'clavigerlaw41.UsageTells'. -/
def usageTellsCard : Claim7 := { stood := { row := usageTellsRow, standIns := [], harness := (true, "5e42438855167c589a5bf786b619e7435ae460ef10c02d9bb739ff0f023b5cc7"), looks := false }, kinds := [], alts := [], laidByText := true, laidKinds := [.data], laidTests := true, laidLooks := .later }
def UsageTellsCardSaid : Prop := Claim7.holds Tryd.pinned (.plain (OpenSpec.ofChange usageTellsSpec)) usageTellsCard

/-- THE TIED CARD OF 'clavigerlaw41.UsageGoes'. -/
def usageGoesCard : Claim7 := { stood := { row := usageGoesRow, standIns := [], harness := (true, "5e42438855167c589a5bf786b619e7435ae460ef10c02d9bb739ff0f023b5cc7"), looks := false }, kinds := [], alts := [], laidByText := true, laidKinds := [.data], laidTests := true, laidLooks := .later }
def UsageGoesCardSaid : Prop := Claim7.holds Tryd.pinned (.plain (OpenSpec.ofChange usageGoesSpec)) usageGoesCard

/-- THE SECOND FORM's CARD OF 'clavigerlaw27.RecordTells'. -/
def recordTellsUptoCard : Claim7 := { stood := { row := recordTellsUptoRow, standIns := [], harness := (true, "5e42438855167c589a5bf786b619e7435ae460ef10c02d9bb739ff0f023b5cc7"), looks := false }, kinds := [], alts := [], laidByText := true, laidKinds := [.data, .data, .data, .pinned], laidTests := true, laidLooks := .later }
def RecordTellsUptoCardSaid : Prop := Claim7.holds Tryd.pinned (.plain (OpenSpec.upto recordTellsSpec)) recordTellsUptoCard

/-- THE SECOND FORM's CARD OF 'clavigerlaw27.RecordBack'. -/
def recordBackUptoCard : Claim7 := { stood := { row := recordBackUptoRow, standIns := [], harness := (true, "5e42438855167c589a5bf786b619e7435ae460ef10c02d9bb739ff0f023b5cc7"), looks := false }, kinds := [], alts := [], laidByText := true, laidKinds := [.data, .data, .data, .pinned], laidTests := true, laidLooks := .later }
def RecordBackUptoCardSaid : Prop := Claim7.holds Tryd.pinned (.plain (OpenSpec.upto recordBackSpec)) recordBackUptoCard

/-- THE SECOND FORM's CARD OF 'clavigerlaw34.FrameBack'. -/
def frameBackUptoCard : Claim7 := { stood := { row := frameBackUptoRow, standIns := [], harness := (true, "5e42438855167c589a5bf786b619e7435ae460ef10c02d9bb739ff0f023b5cc7"), looks := false }, kinds := [], alts := [], laidByText := true, laidKinds := [.data, .data], laidTests := true, laidLooks := .later }
def FrameBackUptoCardSaid : Prop := Claim7.holds Tryd.pinned (.plain (OpenSpec.upto frameBackSpec)) frameBackUptoCard

/-- THE SECOND FORM's CARD OF 'clavigerlaw41.UsageTells'. -/
def usageTellsUptoCard : Claim7 := { stood := { row := usageTellsUptoRow, standIns := [], harness := (true, "5e42438855167c589a5bf786b619e7435ae460ef10c02d9bb739ff0f023b5cc7"), looks := false }, kinds := [], alts := [], laidByText := true, laidKinds := [.data], laidTests := true, laidLooks := .later }
def UsageTellsUptoCardSaid : Prop := Claim7.holds Tryd.pinned (.plain (OpenSpec.upto usageTellsSpec)) usageTellsUptoCard

/-- THE SECOND FORM's CARD OF 'clavigerlaw41.UsageGoes'. -/
def usageGoesUptoCard : Claim7 := { stood := { row := usageGoesUptoRow, standIns := [], harness := (true, "5e42438855167c589a5bf786b619e7435ae460ef10c02d9bb739ff0f023b5cc7"), looks := false }, kinds := [], alts := [], laidByText := true, laidKinds := [.data], laidTests := true, laidLooks := .later }
def UsageGoesUptoCardSaid : Prop := Claim7.holds Tryd.pinned (.plain (OpenSpec.upto usageGoesSpec)) usageGoesUptoCard
end Rows
end Go.Proofs.YtoledeeefcbgnaaDoor
