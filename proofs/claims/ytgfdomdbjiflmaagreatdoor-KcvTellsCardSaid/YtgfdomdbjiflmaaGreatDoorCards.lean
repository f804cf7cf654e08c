/-
  DERIVED. GIVEN WITH THE SEED: THE CARDS: each row of YtgfdomdbjiflmaaGreatDoorRows.lean that lists a variable, with what it lists TIED to the program's text (the seventh form; the later family's looks); each row that meets fmt, with fmt's text TOLD by the authors' own Lean function (tested against real Go, not proved from fmt's source: count such statements apart). THE CARD IS WHAT COUNTS. Prove the row's statement (the work); the ties are given (YtgfdomdbjiflmaaGreatDoorTie.lean); close each card by the builder's one call (the guide's Derived/Test/ToyasCard.lean, 'card_holds'). Laid BY PROGRAM, IN A SANDBOX (cutbox-door.mjs). By AI agents, Wed Nov 11 2026. No macro, syntax, notation, axiom, sorry.
-/
import Derived.Test.YtgfdomdbjiflmaaGreatDoorRows
import GoSem.ClaimSeven
namespace Go.Proofs.YtgfdomdbjiflmaaGreatDoor
namespace Rows

/-- THE TIED CARD OF 'clavigerlaw42.LimitTells'. -/
def limitTellsCard : Claim7 := { stood := { row := limitTellsRow, standIns := [], harness := (true, "a15fd929dc61fc5bc070454669423075185700b75b8bbecf8eff00c0ec65d5fb"), looks := false }, kinds := [], alts := [], laidByText := true, laidKinds := [.data, .data], laidTests := true, laidLooks := .later }
def LimitTellsCardSaid : Prop := Claim7.holds Tryz.pinned (.plain (OpenSpec.ofChange limitTellsSpec)) limitTellsCard

/-- THE TIED CARD OF 'clavigerlaw45.KcvTells'. -/
def kcvTellsCard : Claim7 := { stood := { row := kcvTellsRow, standIns := [], harness := (true, "a15fd929dc61fc5bc070454669423075185700b75b8bbecf8eff00c0ec65d5fb"), looks := false }, kinds := [], alts := [], laidByText := true, laidKinds := [.data, .data, .data, .pinned], laidTests := true, laidLooks := .later }
def KcvTellsCardSaid : Prop := Claim7.holds Tryz.pinned (.plain (OpenSpec.ofChange kcvTellsSpec)) kcvTellsCard

/-- THE SECOND FORM's CARD OF 'clavigerlaw42.LimitTells'. -/
def limitTellsUptoCard : Claim7 := { stood := { row := limitTellsUptoRow, standIns := [], harness := (true, "a15fd929dc61fc5bc070454669423075185700b75b8bbecf8eff00c0ec65d5fb"), looks := false }, kinds := [], alts := [], laidByText := true, laidKinds := [.data, .data], laidTests := true, laidLooks := .later }
def LimitTellsUptoCardSaid : Prop := Claim7.holds Tryz.pinned (.plain (OpenSpec.upto limitTellsSpec)) limitTellsUptoCard

/-- THE SECOND FORM's CARD OF 'clavigerlaw45.KcvTells'. -/
def kcvTellsUptoCard : Claim7 := { stood := { row := kcvTellsUptoRow, standIns := [], harness := (true, "a15fd929dc61fc5bc070454669423075185700b75b8bbecf8eff00c0ec65d5fb"), looks := false }, kinds := [], alts := [], laidByText := true, laidKinds := [.data, .data, .data, .pinned], laidTests := true, laidLooks := .later }
def KcvTellsUptoCardSaid : Prop := Claim7.holds Tryz.pinned (.plain (OpenSpec.upto kcvTellsSpec)) kcvTellsUptoCard
end Rows
end Go.Proofs.YtgfdomdbjiflmaaGreatDoor
