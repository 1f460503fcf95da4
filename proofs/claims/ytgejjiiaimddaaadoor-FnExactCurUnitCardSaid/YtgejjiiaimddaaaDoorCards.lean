/-
  DERIVED. GIVEN WITH THE SEED: THE CARDS: each row of YtgejjiiaimddaaaDoorRows.lean that lists a variable, with what it lists TIED to the program's text (the seventh form; the later family's looks); each row that meets fmt, with fmt's text TOLD by the authors' own Lean function (tested against real Go, not proved from fmt's source: count such statements apart). THE CARD IS WHAT COUNTS. Prove the row's statement (the work); the ties are given (YtgejjiiaimddaaaDoorTie.lean); close each card by the builder's one call (the guide's Derived/Test/ToyasCard.lean, 'card_holds'). Laid BY PROGRAM, IN A SANDBOX (cutbox-door.mjs). By AI agents, Wed Nov 11 2026. No macro, syntax, notation, axiom, sorry.
-/
import Derived.Test.YtgejjiiaimddaaaDoorRows
import GoSem.ClaimSeven
namespace Go.Proofs.YtgejjiiaimddaaaDoor
namespace Rows

/-- THE TIED CARD OF 'laws.FnExactCurNumber'. -/
def fnExactCurNumberCard : Claim7 := { stood := { row := fnExactCurNumberRow, standIns := [], harness := (true, "fcac15afe64818960fca4f373e9809a8bb0db6d4b7d0e4706cdff7dede1988dd"), looks := true }, kinds := [], alts := [], laidByText := true, laidKinds := [.data], laidTests := true, laidLooks := .later }
def FnExactCurNumberCardSaid : Prop := Claim7.holds Tryd.pinned (.plain (OpenSpec.ofChange fnExactCurNumberSpec)) fnExactCurNumberCard

/-- THE TIED CARD OF 'laws.FnExactCurPlaces'. -/
def fnExactCurPlacesCard : Claim7 := { stood := { row := fnExactCurPlacesRow, standIns := [], harness := (true, "fcac15afe64818960fca4f373e9809a8bb0db6d4b7d0e4706cdff7dede1988dd"), looks := true }, kinds := [], alts := [], laidByText := true, laidKinds := [.data], laidTests := true, laidLooks := .later }
def FnExactCurPlacesCardSaid : Prop := Claim7.holds Tryd.pinned (.plain (OpenSpec.ofChange fnExactCurPlacesSpec)) fnExactCurPlacesCard

/-- THE TIED CARD OF 'laws.FnExactCurCash'. -/
def fnExactCurCashCard : Claim7 := { stood := { row := fnExactCurCashRow, standIns := [], harness := (true, "fcac15afe64818960fca4f373e9809a8bb0db6d4b7d0e4706cdff7dede1988dd"), looks := true }, kinds := [], alts := [], laidByText := true, laidKinds := [.data], laidTests := true, laidLooks := .later }
def FnExactCurCashCardSaid : Prop := Claim7.holds Tryd.pinned (.plain (OpenSpec.ofChange fnExactCurCashSpec)) fnExactCurCashCard

/-- THE TIED CARD OF 'laws.FnExactCurUnit'. -/
def fnExactCurUnitCard : Claim7 := { stood := { row := fnExactCurUnitRow, standIns := [], harness := (true, "fcac15afe64818960fca4f373e9809a8bb0db6d4b7d0e4706cdff7dede1988dd"), looks := true }, kinds := [], alts := [], laidByText := true, laidKinds := [.sentinel, .data], laidTests := true, laidLooks := .later }
def FnExactCurUnitCardSaid : Prop := Claim7.holds Tryd.pinned (.plain (OpenSpec.ofChange fnExactCurUnitSpec)) fnExactCurUnitCard

/-- THE SECOND FORM's CARD OF 'laws.FnExactCurNumber'. -/
def fnExactCurNumberUptoCard : Claim7 := { stood := { row := fnExactCurNumberUptoRow, standIns := [], harness := (true, "fcac15afe64818960fca4f373e9809a8bb0db6d4b7d0e4706cdff7dede1988dd"), looks := true }, kinds := [], alts := [], laidByText := true, laidKinds := [.data], laidTests := true, laidLooks := .later }
def FnExactCurNumberUptoCardSaid : Prop := Claim7.holds Tryd.pinned (.plain (OpenSpec.upto fnExactCurNumberSpec)) fnExactCurNumberUptoCard

/-- THE SECOND FORM's CARD OF 'laws.FnExactCurPlaces'. -/
def fnExactCurPlacesUptoCard : Claim7 := { stood := { row := fnExactCurPlacesUptoRow, standIns := [], harness := (true, "fcac15afe64818960fca4f373e9809a8bb0db6d4b7d0e4706cdff7dede1988dd"), looks := true }, kinds := [], alts := [], laidByText := true, laidKinds := [.data], laidTests := true, laidLooks := .later }
def FnExactCurPlacesUptoCardSaid : Prop := Claim7.holds Tryd.pinned (.plain (OpenSpec.upto fnExactCurPlacesSpec)) fnExactCurPlacesUptoCard

/-- THE SECOND FORM's CARD OF 'laws.FnExactCurCash'. -/
def fnExactCurCashUptoCard : Claim7 := { stood := { row := fnExactCurCashUptoRow, standIns := [], harness := (true, "fcac15afe64818960fca4f373e9809a8bb0db6d4b7d0e4706cdff7dede1988dd"), looks := true }, kinds := [], alts := [], laidByText := true, laidKinds := [.data], laidTests := true, laidLooks := .later }
def FnExactCurCashUptoCardSaid : Prop := Claim7.holds Tryd.pinned (.plain (OpenSpec.upto fnExactCurCashSpec)) fnExactCurCashUptoCard

/-- THE SECOND FORM's CARD OF 'laws.FnExactCurUnit'. -/
def fnExactCurUnitUptoCard : Claim7 := { stood := { row := fnExactCurUnitUptoRow, standIns := [], harness := (true, "fcac15afe64818960fca4f373e9809a8bb0db6d4b7d0e4706cdff7dede1988dd"), looks := true }, kinds := [], alts := [], laidByText := true, laidKinds := [.sentinel, .data], laidTests := true, laidLooks := .later }
def FnExactCurUnitUptoCardSaid : Prop := Claim7.holds Tryd.pinned (.plain (OpenSpec.upto fnExactCurUnitSpec)) fnExactCurUnitUptoCard
end Rows
end Go.Proofs.YtgejjiiaimddaaaDoor
