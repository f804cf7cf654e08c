/-
  DERIVED. GIVEN WITH THE SEED: THE CARDS: each row of YtgfdomdbjiflmaaDoorRows.lean that lists a variable, with what it lists TIED to the program's text (the seventh form; the later family's looks); each row that meets fmt, with fmt's text TOLD by the authors' own Lean function (tested against real Go, not proved from fmt's source: count such statements apart). THE CARD IS WHAT COUNTS. Prove the row's statement (the work); the ties are given (YtgfdomdbjiflmaaDoorTie.lean); close each card by the builder's one call (the guide's Derived/Test/ToyasCard.lean, 'card_holds'). Laid BY PROGRAM, IN A SANDBOX (cutbox-door.mjs). By AI agents, Wed Nov 11 2026. No macro, syntax, notation, axiom, sorry.
-/
import Derived.Test.YtgfdomdbjiflmaaDoorRows
import GoSem.ClaimSeven
namespace Go.Proofs.YtgfdomdbjiflmaaDoor
namespace Rows

/-- THE TIED CARD OF 'clavigerlaw41.UsageTells'. -/
def usageTellsCard : Claim7 := { stood := { row := usageTellsRow, standIns := [], harness := (true, "3742fc221afb5df6772b483317d2de1d83260c8aae5914a5a8b5c1dd398f31ca"), looks := false }, kinds := [], alts := [], laidByText := true, laidKinds := [.data], laidTests := true, laidLooks := .later }
def UsageTellsCardSaid : Prop := Claim7.holds Tryd.pinned (.plain (OpenSpec.ofChange usageTellsSpec)) usageTellsCard

/-- THE TIED CARD OF 'clavigerlaw41.UsageGoes'. -/
def usageGoesCard : Claim7 := { stood := { row := usageGoesRow, standIns := [], harness := (true, "3742fc221afb5df6772b483317d2de1d83260c8aae5914a5a8b5c1dd398f31ca"), looks := false }, kinds := [], alts := [], laidByText := true, laidKinds := [.data], laidTests := true, laidLooks := .later }
def UsageGoesCardSaid : Prop := Claim7.holds Tryd.pinned (.plain (OpenSpec.ofChange usageGoesSpec)) usageGoesCard

/-- THE TIED CARD OF 'clavigerlaw42.LimitHolds'. -/
def limitHoldsCard : Claim7 := { stood := { row := limitHoldsRow, standIns := [], harness := (true, "3742fc221afb5df6772b483317d2de1d83260c8aae5914a5a8b5c1dd398f31ca"), looks := false }, kinds := [], alts := [], laidByText := true, laidKinds := [.data, .data], laidTests := true, laidLooks := .later }
def LimitHoldsCardSaid : Prop := Claim7.holds Tryd.pinned (.plain (OpenSpec.ofChange limitHoldsSpec)) limitHoldsCard

/-- THE TIED CARD OF 'clavigerlaw45.KcvParts'. -/
def kcvPartsCard : Claim7 := { stood := { row := kcvPartsRow, standIns := [], harness := (true, "3742fc221afb5df6772b483317d2de1d83260c8aae5914a5a8b5c1dd398f31ca"), looks := false }, kinds := [], alts := [], laidByText := true, laidKinds := [.data, .data, .data, .pinned], laidTests := true, laidLooks := .later }
def KcvPartsCardSaid : Prop := Claim7.holds Tryd.pinned (.plain (OpenSpec.ofChange kcvPartsSpec)) kcvPartsCard

/-- THE TIED CARD OF 'clavigerlaw45.KcvBack'. -/
def kcvBackCard : Claim7 := { stood := { row := kcvBackRow, standIns := [], harness := (true, "3742fc221afb5df6772b483317d2de1d83260c8aae5914a5a8b5c1dd398f31ca"), looks := false }, kinds := [], alts := [], laidByText := true, laidKinds := [.data, .data, .data, .pinned], laidTests := true, laidLooks := .later }
def KcvBackCardSaid : Prop := Claim7.holds Tryd.pinned (.plain (OpenSpec.ofChange kcvBackSpec)) kcvBackCard

/-- THE SECOND FORM's CARD OF 'clavigerlaw41.UsageTells'. -/
def usageTellsUptoCard : Claim7 := { stood := { row := usageTellsUptoRow, standIns := [], harness := (true, "3742fc221afb5df6772b483317d2de1d83260c8aae5914a5a8b5c1dd398f31ca"), looks := false }, kinds := [], alts := [], laidByText := true, laidKinds := [.data], laidTests := true, laidLooks := .later }
def UsageTellsUptoCardSaid : Prop := Claim7.holds Tryd.pinned (.plain (OpenSpec.upto usageTellsSpec)) usageTellsUptoCard

/-- THE SECOND FORM's CARD OF 'clavigerlaw41.UsageGoes'. -/
def usageGoesUptoCard : Claim7 := { stood := { row := usageGoesUptoRow, standIns := [], harness := (true, "3742fc221afb5df6772b483317d2de1d83260c8aae5914a5a8b5c1dd398f31ca"), looks := false }, kinds := [], alts := [], laidByText := true, laidKinds := [.data], laidTests := true, laidLooks := .later }
def UsageGoesUptoCardSaid : Prop := Claim7.holds Tryd.pinned (.plain (OpenSpec.upto usageGoesSpec)) usageGoesUptoCard

/-- THE SECOND FORM's CARD OF 'clavigerlaw42.LimitHolds'. -/
def limitHoldsUptoCard : Claim7 := { stood := { row := limitHoldsUptoRow, standIns := [], harness := (true, "3742fc221afb5df6772b483317d2de1d83260c8aae5914a5a8b5c1dd398f31ca"), looks := false }, kinds := [], alts := [], laidByText := true, laidKinds := [.data, .data], laidTests := true, laidLooks := .later }
def LimitHoldsUptoCardSaid : Prop := Claim7.holds Tryd.pinned (.plain (OpenSpec.upto limitHoldsSpec)) limitHoldsUptoCard

/-- THE SECOND FORM's CARD OF 'clavigerlaw45.KcvParts'. -/
def kcvPartsUptoCard : Claim7 := { stood := { row := kcvPartsUptoRow, standIns := [], harness := (true, "3742fc221afb5df6772b483317d2de1d83260c8aae5914a5a8b5c1dd398f31ca"), looks := false }, kinds := [], alts := [], laidByText := true, laidKinds := [.data, .data, .data, .pinned], laidTests := true, laidLooks := .later }
def KcvPartsUptoCardSaid : Prop := Claim7.holds Tryd.pinned (.plain (OpenSpec.upto kcvPartsSpec)) kcvPartsUptoCard

/-- THE SECOND FORM's CARD OF 'clavigerlaw45.KcvBack'. -/
def kcvBackUptoCard : Claim7 := { stood := { row := kcvBackUptoRow, standIns := [], harness := (true, "3742fc221afb5df6772b483317d2de1d83260c8aae5914a5a8b5c1dd398f31ca"), looks := false }, kinds := [], alts := [], laidByText := true, laidKinds := [.data, .data, .data, .pinned], laidTests := true, laidLooks := .later }
def KcvBackUptoCardSaid : Prop := Claim7.holds Tryd.pinned (.plain (OpenSpec.upto kcvBackSpec)) kcvBackUptoCard
end Rows
end Go.Proofs.YtgfdomdbjiflmaaDoor
