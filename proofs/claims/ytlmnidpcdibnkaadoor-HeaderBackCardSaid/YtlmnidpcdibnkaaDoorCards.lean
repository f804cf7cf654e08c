/-
  DERIVED. GIVEN WITH THE SEED: THE CARDS: each row of YtlmnidpcdibnkaaDoorRows.lean that lists a variable, with what it lists TIED to the program's text (the seventh form; the later family's looks); each row that meets fmt, with fmt's text TOLD by the authors' own Lean function (tested against real Go, not proved from fmt's source: count such statements apart). THE CARD IS WHAT COUNTS. Prove the row's statement (the work); the ties are given (YtlmnidpcdibnkaaDoorTie.lean); close each card by the builder's one call (the guide's Derived/Test/ToyasCard.lean, 'card_holds'). Laid BY PROGRAM, IN A SANDBOX (cutbox-door.mjs). By AI agents, Wed Nov 11 2026. No macro, syntax, notation, axiom, sorry.
-/
import Derived.Test.YtlmnidpcdibnkaaDoorRows
import GoSem.ClaimSeven
namespace Go.Proofs.YtlmnidpcdibnkaaDoor
namespace Rows

/-- THE TIED CARD OF 'clavigerlaw30.TableTells'. -/
def tableTellsCard : Claim7 := { stood := { row := tableTellsRow, standIns := [], harness := (true, "b88b89a0ebfe1b40a3c528929254473623b9615dfb80e698bf2b79c7b7e13cad"), looks := false }, kinds := [], alts := [], laidByText := true, laidKinds := [.data], laidTests := true, laidLooks := .later }
def TableTellsCardSaid : Prop := Claim7.holds Tryd.pinned (.plain (OpenSpec.ofChange tableTellsSpec)) tableTellsCard

/-- THE TIED CARD OF 'clavigerlaw30.TableGoes'. -/
def tableGoesCard : Claim7 := { stood := { row := tableGoesRow, standIns := [], harness := (true, "b88b89a0ebfe1b40a3c528929254473623b9615dfb80e698bf2b79c7b7e13cad"), looks := false }, kinds := [], alts := [], laidByText := true, laidKinds := [.data], laidTests := true, laidLooks := .later }
def TableGoesCardSaid : Prop := Claim7.holds Tryd.pinned (.plain (OpenSpec.ofChange tableGoesSpec)) tableGoesCard

/-- THE TIED CARD OF 'clavigerlaw31.HeaderTells'. -/
def headerTellsCard : Claim7 := { stood := { row := headerTellsRow, standIns := [], harness := (true, "b88b89a0ebfe1b40a3c528929254473623b9615dfb80e698bf2b79c7b7e13cad"), looks := false }, kinds := [], alts := [], laidByText := true, laidKinds := [.data, .data], laidTests := true, laidLooks := .later }
def HeaderTellsCardSaid : Prop := Claim7.holds Tryd.pinned (.plain (OpenSpec.ofChange headerTellsSpec)) headerTellsCard

/-- THE TIED CARD OF 'clavigerlaw31.HeaderBack'. -/
def headerBackCard : Claim7 := { stood := { row := headerBackRow, standIns := [], harness := (true, "b88b89a0ebfe1b40a3c528929254473623b9615dfb80e698bf2b79c7b7e13cad"), looks := false }, kinds := [], alts := [], laidByText := true, laidKinds := [.data, .data], laidTests := true, laidLooks := .later }
def HeaderBackCardSaid : Prop := Claim7.holds Tryd.pinned (.plain (OpenSpec.ofChange headerBackSpec)) headerBackCard

/-- THE SECOND FORM's CARD OF 'clavigerlaw30.TableTells'. -/
def tableTellsUptoCard : Claim7 := { stood := { row := tableTellsUptoRow, standIns := [], harness := (true, "b88b89a0ebfe1b40a3c528929254473623b9615dfb80e698bf2b79c7b7e13cad"), looks := false }, kinds := [], alts := [], laidByText := true, laidKinds := [.data], laidTests := true, laidLooks := .later }
def TableTellsUptoCardSaid : Prop := Claim7.holds Tryd.pinned (.plain (OpenSpec.upto tableTellsSpec)) tableTellsUptoCard

/-- THE SECOND FORM's CARD OF 'clavigerlaw30.TableGoes'. -/
def tableGoesUptoCard : Claim7 := { stood := { row := tableGoesUptoRow, standIns := [], harness := (true, "b88b89a0ebfe1b40a3c528929254473623b9615dfb80e698bf2b79c7b7e13cad"), looks := false }, kinds := [], alts := [], laidByText := true, laidKinds := [.data], laidTests := true, laidLooks := .later }
def TableGoesUptoCardSaid : Prop := Claim7.holds Tryd.pinned (.plain (OpenSpec.upto tableGoesSpec)) tableGoesUptoCard

/-- THE SECOND FORM's CARD OF 'clavigerlaw31.HeaderTells'. -/
def headerTellsUptoCard : Claim7 := { stood := { row := headerTellsUptoRow, standIns := [], harness := (true, "b88b89a0ebfe1b40a3c528929254473623b9615dfb80e698bf2b79c7b7e13cad"), looks := false }, kinds := [], alts := [], laidByText := true, laidKinds := [.data, .data], laidTests := true, laidLooks := .later }
def HeaderTellsUptoCardSaid : Prop := Claim7.holds Tryd.pinned (.plain (OpenSpec.upto headerTellsSpec)) headerTellsUptoCard

/-- THE SECOND FORM's CARD OF 'clavigerlaw31.HeaderBack'. -/
def headerBackUptoCard : Claim7 := { stood := { row := headerBackUptoRow, standIns := [], harness := (true, "b88b89a0ebfe1b40a3c528929254473623b9615dfb80e698bf2b79c7b7e13cad"), looks := false }, kinds := [], alts := [], laidByText := true, laidKinds := [.data, .data], laidTests := true, laidLooks := .later }
def HeaderBackUptoCardSaid : Prop := Claim7.holds Tryd.pinned (.plain (OpenSpec.upto headerBackSpec)) headerBackUptoCard
end Rows
end Go.Proofs.YtlmnidpcdibnkaaDoor
