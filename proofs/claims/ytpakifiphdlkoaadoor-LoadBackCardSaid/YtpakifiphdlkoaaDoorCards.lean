/-
  DERIVED. GIVEN WITH THE SEED: THE CARDS: each row of YtpakifiphdlkoaaDoorRows.lean that lists a variable, with what it lists TIED to the program's text (the seventh form; the later family's looks); each row that meets fmt, with fmt's text TOLD by the authors' own Lean function (tested against real Go, not proved from fmt's source: count such statements apart). THE CARD IS WHAT COUNTS. Prove the row's statement (the work); the ties are given (YtpakifiphdlkoaaDoorTie.lean); close each card by the builder's one call (the guide's Derived/Test/ToyasCard.lean, 'card_holds'). Laid BY PROGRAM, IN A SANDBOX (cutbox-door.mjs). By AI agents, Wed Nov 11 2026. No macro, syntax, notation, axiom, sorry.
-/
import Derived.Test.YtpakifiphdlkoaaDoorRows
import GoSem.ClaimSeven
namespace Go.Proofs.YtpakifiphdlkoaaDoor
namespace Rows

/-- THE TIED CARD OF 'clavigerlaw22.CurveTells'. -/
def curveTellsCard : Claim7 := { stood := { row := curveTellsRow, standIns := [], harness := (true, "d5f66c302230924c2390e191889f84a21ba1da0a9229524aedf7f39af1c32626"), looks := false }, kinds := [], alts := [], laidByText := true, laidKinds := [.data, .data, .pinned], laidTests := true, laidLooks := .later }
def CurveTellsCardSaid : Prop := Claim7.holds Tryd.pinned (.plain (OpenSpec.ofChange curveTellsSpec)) curveTellsCard

/-- THE TIED CARD OF 'clavigerlaw22.CurveFound'. -/
def curveFoundCard : Claim7 := { stood := { row := curveFoundRow, standIns := [], harness := (true, "d5f66c302230924c2390e191889f84a21ba1da0a9229524aedf7f39af1c32626"), looks := false }, kinds := [], alts := [], laidByText := true, laidKinds := [.data, .data, .pinned], laidTests := true, laidLooks := .later }
def CurveFoundCardSaid : Prop := Claim7.holds Tryd.pinned (.plain (OpenSpec.ofChange curveFoundSpec)) curveFoundCard

/-- THE TIED CARD OF 'clavigerlaw23.KindTells'. -/
def kindTellsCard : Claim7 := { stood := { row := kindTellsRow, standIns := [], harness := (true, "d5f66c302230924c2390e191889f84a21ba1da0a9229524aedf7f39af1c32626"), looks := false }, kinds := [], alts := [], laidByText := true, laidKinds := [.data, .data, .data, .pinned], laidTests := true, laidLooks := .later }
def KindTellsCardSaid : Prop := Claim7.holds Tryd.pinned (.plain (OpenSpec.ofChange kindTellsSpec)) kindTellsCard

/-- THE TIED CARD OF 'clavigerlaw23.KindChecks'. -/
def kindChecksCard : Claim7 := { stood := { row := kindChecksRow, standIns := [], harness := (true, "d5f66c302230924c2390e191889f84a21ba1da0a9229524aedf7f39af1c32626"), looks := false }, kinds := [], alts := [], laidByText := true, laidKinds := [.data, .data, .data, .pinned], laidTests := true, laidLooks := .later }
def KindChecksCardSaid : Prop := Claim7.holds Tryd.pinned (.plain (OpenSpec.ofChange kindChecksSpec)) kindChecksCard

/-- THE TIED CARD OF 'clavigerlaw23.KindFound'. -/
def kindFoundCard : Claim7 := { stood := { row := kindFoundRow, standIns := [], harness := (true, "d5f66c302230924c2390e191889f84a21ba1da0a9229524aedf7f39af1c32626"), looks := false }, kinds := [], alts := [], laidByText := true, laidKinds := [.data, .data, .data, .pinned], laidTests := true, laidLooks := .later }
def KindFoundCardSaid : Prop := Claim7.holds Tryd.pinned (.plain (OpenSpec.ofChange kindFoundSpec)) kindFoundCard

/-- THE TIED CARD OF 'clavigerlaw36.LoadTells'. -/
def loadTellsCard : Claim7 := { stood := { row := loadTellsRow, standIns := [], harness := (true, "d5f66c302230924c2390e191889f84a21ba1da0a9229524aedf7f39af1c32626"), looks := false }, kinds := [], alts := [], laidByText := true, laidKinds := [.data, .data, .data, .pinned], laidTests := true, laidLooks := .later }
def LoadTellsCardSaid : Prop := Claim7.holds Tryd.pinned (.plain (OpenSpec.ofChange loadTellsSpec)) loadTellsCard

/-- THE TIED CARD OF 'clavigerlaw36.LoadBack'. -/
def loadBackCard : Claim7 := { stood := { row := loadBackRow, standIns := [], harness := (true, "d5f66c302230924c2390e191889f84a21ba1da0a9229524aedf7f39af1c32626"), looks := false }, kinds := [], alts := [], laidByText := true, laidKinds := [.data, .data, .data, .pinned], laidTests := true, laidLooks := .later }
def LoadBackCardSaid : Prop := Claim7.holds Tryd.pinned (.plain (OpenSpec.ofChange loadBackSpec)) loadBackCard

/-- THE SECOND FORM's CARD OF 'clavigerlaw22.CurveTells'. -/
def curveTellsUptoCard : Claim7 := { stood := { row := curveTellsUptoRow, standIns := [], harness := (true, "d5f66c302230924c2390e191889f84a21ba1da0a9229524aedf7f39af1c32626"), looks := false }, kinds := [], alts := [], laidByText := true, laidKinds := [.data, .data, .pinned], laidTests := true, laidLooks := .later }
def CurveTellsUptoCardSaid : Prop := Claim7.holds Tryd.pinned (.plain (OpenSpec.upto curveTellsSpec)) curveTellsUptoCard

/-- THE SECOND FORM's CARD OF 'clavigerlaw22.CurveFound'. -/
def curveFoundUptoCard : Claim7 := { stood := { row := curveFoundUptoRow, standIns := [], harness := (true, "d5f66c302230924c2390e191889f84a21ba1da0a9229524aedf7f39af1c32626"), looks := false }, kinds := [], alts := [], laidByText := true, laidKinds := [.data, .data, .pinned], laidTests := true, laidLooks := .later }
def CurveFoundUptoCardSaid : Prop := Claim7.holds Tryd.pinned (.plain (OpenSpec.upto curveFoundSpec)) curveFoundUptoCard

/-- THE SECOND FORM's CARD OF 'clavigerlaw23.KindTells'. -/
def kindTellsUptoCard : Claim7 := { stood := { row := kindTellsUptoRow, standIns := [], harness := (true, "d5f66c302230924c2390e191889f84a21ba1da0a9229524aedf7f39af1c32626"), looks := false }, kinds := [], alts := [], laidByText := true, laidKinds := [.data, .data, .data, .pinned], laidTests := true, laidLooks := .later }
def KindTellsUptoCardSaid : Prop := Claim7.holds Tryd.pinned (.plain (OpenSpec.upto kindTellsSpec)) kindTellsUptoCard

/-- THE SECOND FORM's CARD OF 'clavigerlaw23.KindChecks'. -/
def kindChecksUptoCard : Claim7 := { stood := { row := kindChecksUptoRow, standIns := [], harness := (true, "d5f66c302230924c2390e191889f84a21ba1da0a9229524aedf7f39af1c32626"), looks := false }, kinds := [], alts := [], laidByText := true, laidKinds := [.data, .data, .data, .pinned], laidTests := true, laidLooks := .later }
def KindChecksUptoCardSaid : Prop := Claim7.holds Tryd.pinned (.plain (OpenSpec.upto kindChecksSpec)) kindChecksUptoCard

/-- THE SECOND FORM's CARD OF 'clavigerlaw23.KindFound'. -/
def kindFoundUptoCard : Claim7 := { stood := { row := kindFoundUptoRow, standIns := [], harness := (true, "d5f66c302230924c2390e191889f84a21ba1da0a9229524aedf7f39af1c32626"), looks := false }, kinds := [], alts := [], laidByText := true, laidKinds := [.data, .data, .data, .pinned], laidTests := true, laidLooks := .later }
def KindFoundUptoCardSaid : Prop := Claim7.holds Tryd.pinned (.plain (OpenSpec.upto kindFoundSpec)) kindFoundUptoCard

/-- THE SECOND FORM's CARD OF 'clavigerlaw36.LoadTells'. -/
def loadTellsUptoCard : Claim7 := { stood := { row := loadTellsUptoRow, standIns := [], harness := (true, "d5f66c302230924c2390e191889f84a21ba1da0a9229524aedf7f39af1c32626"), looks := false }, kinds := [], alts := [], laidByText := true, laidKinds := [.data, .data, .data, .pinned], laidTests := true, laidLooks := .later }
def LoadTellsUptoCardSaid : Prop := Claim7.holds Tryd.pinned (.plain (OpenSpec.upto loadTellsSpec)) loadTellsUptoCard

/-- THE SECOND FORM's CARD OF 'clavigerlaw36.LoadBack'. -/
def loadBackUptoCard : Claim7 := { stood := { row := loadBackUptoRow, standIns := [], harness := (true, "d5f66c302230924c2390e191889f84a21ba1da0a9229524aedf7f39af1c32626"), looks := false }, kinds := [], alts := [], laidByText := true, laidKinds := [.data, .data, .data, .pinned], laidTests := true, laidLooks := .later }
def LoadBackUptoCardSaid : Prop := Claim7.holds Tryd.pinned (.plain (OpenSpec.upto loadBackSpec)) loadBackUptoCard
end Rows
end Go.Proofs.YtpakifiphdlkoaaDoor
