/-
  DERIVED. GIVEN WITH THE SEED: THE CARDS: each row of YtagmgldibjjeeaaDoorRows.lean that lists a variable, with what it lists TIED to the program's text (the seventh form; the later family's looks); each row that meets fmt, with fmt's text TOLD by the authors' own Lean function (tested against real Go, not proved from fmt's source: count such statements apart). THE CARD IS WHAT COUNTS. Prove the row's statement (the work); the ties are given (YtagmgldibjjeeaaDoorTie.lean); close each card by the builder's one call (the guide's Derived/Test/ToyasCard.lean, 'card_holds'). Laid BY PROGRAM, IN A SANDBOX (cutbox-door.mjs). By AI agents, Wed Nov 11 2026. No macro, syntax, notation, axiom, sorry.
-/
import Derived.Test.YtagmgldibjjeeaaDoorRows
import GoSem.ClaimSeven
namespace Go.Proofs.YtagmgldibjjeeaaDoor
namespace Rows

/-- THE TIED CARD OF 'clavigerlaw46.PemTells'. -/
def pemTellsCard : Claim7 := { stood := { row := pemTellsRow, standIns := [], harness := (true, "7ca179edf9c43d6da4b71392bb722eb9d42fa4aa2cf06415f231ff068e3f6e99"), looks := false }, kinds := [], alts := [], laidByText := true, laidKinds := [.data, .pinned], laidTests := true, laidLooks := .later }
def PemTellsCardSaid : Prop := Claim7.holds Tryd.pinned (.plain (OpenSpec.ofChange pemTellsSpec)) pemTellsCard

/-- THE TIED CARD OF 'clavigerlaw46.PemBack'. -/
def pemBackCard : Claim7 := { stood := { row := pemBackRow, standIns := [], harness := (true, "7ca179edf9c43d6da4b71392bb722eb9d42fa4aa2cf06415f231ff068e3f6e99"), looks := false }, kinds := [], alts := [], laidByText := true, laidKinds := [.data, .pinned], laidTests := true, laidLooks := .later }
def PemBackCardSaid : Prop := Claim7.holds Tryd.pinned (.plain (OpenSpec.ofChange pemBackSpec)) pemBackCard

/-- THE SECOND FORM's CARD OF 'clavigerlaw46.PemTells'. -/
def pemTellsUptoCard : Claim7 := { stood := { row := pemTellsUptoRow, standIns := [], harness := (true, "7ca179edf9c43d6da4b71392bb722eb9d42fa4aa2cf06415f231ff068e3f6e99"), looks := false }, kinds := [], alts := [], laidByText := true, laidKinds := [.data, .pinned], laidTests := true, laidLooks := .later }
def PemTellsUptoCardSaid : Prop := Claim7.holds Tryd.pinned (.plain (OpenSpec.upto pemTellsSpec)) pemTellsUptoCard

/-- THE SECOND FORM's CARD OF 'clavigerlaw46.PemBack'. -/
def pemBackUptoCard : Claim7 := { stood := { row := pemBackUptoRow, standIns := [], harness := (true, "7ca179edf9c43d6da4b71392bb722eb9d42fa4aa2cf06415f231ff068e3f6e99"), looks := false }, kinds := [], alts := [], laidByText := true, laidKinds := [.data, .pinned], laidTests := true, laidLooks := .later }
def PemBackUptoCardSaid : Prop := Claim7.holds Tryd.pinned (.plain (OpenSpec.upto pemBackSpec)) pemBackUptoCard
end Rows
end Go.Proofs.YtagmgldibjjeeaaDoor
