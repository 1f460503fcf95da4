/-
  DERIVED. GIVEN WITH THE SEED: THE CARDS: each row of YtofehcpapdlcnaaGreatDoorRows.lean that lists a variable, with what it lists TIED to the program's text (the seventh form; the later family's looks); each row that meets fmt, with fmt's text TOLD by the authors' own Lean function (tested against real Go, not proved from fmt's source: count such statements apart). THE CARD IS WHAT COUNTS. Prove the row's statement (the work); the ties are given (YtofehcpapdlcnaaGreatDoorTie.lean); close each card by the builder's one call (the guide's Derived/Test/ToyasCard.lean, 'card_holds'). Laid BY PROGRAM, IN A SANDBOX (cutbox-door.mjs). By AI agents, Wed Nov 11 2026. No macro, syntax, notation, axiom, sorry.
-/
import Derived.Test.YtofehcpapdlcnaaGreatDoorRows
import GoSem.ClaimSeven
namespace Go.Proofs.YtofehcpapdlcnaaGreatDoor
namespace Rows

/-- THE TIED CARD OF 'laws.FnExactTaxOn'. -/
def fnExactTaxOnCard : Claim7 := { stood := { row := fnExactTaxOnRow, standIns := [], harness := (true, "0b6687975953bbb9af2ba8bf7ce17c43e87ec32fde7dc62a0d98cd99fe68006f"), looks := true }, kinds := [], alts := [], laidByText := true, laidKinds := [.sentinel, .data], laidTests := true, laidLooks := .later }
def FnExactTaxOnCardSaid : Prop := Claim7.holds Tryz.pinned (.plain (OpenSpec.ofChange fnExactTaxOnSpec)) fnExactTaxOnCard

/-- THE TIED CARD OF 'laws.FnExactTaxIn'. -/
def fnExactTaxInCard : Claim7 := { stood := { row := fnExactTaxInRow, standIns := [], harness := (true, "0b6687975953bbb9af2ba8bf7ce17c43e87ec32fde7dc62a0d98cd99fe68006f"), looks := true }, kinds := [], alts := [], laidByText := true, laidKinds := [.sentinel, .data], laidTests := true, laidLooks := .later }
def FnExactTaxInCardSaid : Prop := Claim7.holds Tryz.pinned (.plain (OpenSpec.ofChange fnExactTaxInSpec)) fnExactTaxInCard

/-- THE TIED CARD OF 'laws.FnExactPercent'. -/
def fnExactPercentCard : Claim7 := { stood := { row := fnExactPercentRow, standIns := [], harness := (true, "0b6687975953bbb9af2ba8bf7ce17c43e87ec32fde7dc62a0d98cd99fe68006f"), looks := true }, kinds := [], alts := [], laidByText := true, laidKinds := [.data, .data, .data, .sentinel], laidTests := true, laidLooks := .later }
def FnExactPercentCardSaid : Prop := Claim7.holds Tryz.pinned (.plain (OpenSpec.ofChange fnExactPercentSpec)) fnExactPercentCard

/-- THE TIED CARD OF 'laws.FnExactTextPercent'. -/
def fnExactTextPercentCard : Claim7 := { stood := { row := fnExactTextPercentRow, standIns := [], harness := (true, "0b6687975953bbb9af2ba8bf7ce17c43e87ec32fde7dc62a0d98cd99fe68006f"), looks := true }, kinds := [], alts := [], laidByText := true, laidKinds := [.data, .data, .data, .data, .sentinel, .pinned], laidTests := true, laidLooks := .later }
def FnExactTextPercentCardSaid : Prop := Claim7.holds Tryz.pinned (.plain (OpenSpec.ofChange fnExactTextPercentSpec)) fnExactTextPercentCard

/-- THE SECOND FORM's CARD OF 'laws.FnExactTaxOn'. -/
def fnExactTaxOnUptoCard : Claim7 := { stood := { row := fnExactTaxOnUptoRow, standIns := [], harness := (true, "0b6687975953bbb9af2ba8bf7ce17c43e87ec32fde7dc62a0d98cd99fe68006f"), looks := true }, kinds := [], alts := [], laidByText := true, laidKinds := [.sentinel, .data], laidTests := true, laidLooks := .later }
def FnExactTaxOnUptoCardSaid : Prop := Claim7.holds Tryz.pinned (.plain (OpenSpec.upto fnExactTaxOnSpec)) fnExactTaxOnUptoCard

/-- THE SECOND FORM's CARD OF 'laws.FnExactTaxIn'. -/
def fnExactTaxInUptoCard : Claim7 := { stood := { row := fnExactTaxInUptoRow, standIns := [], harness := (true, "0b6687975953bbb9af2ba8bf7ce17c43e87ec32fde7dc62a0d98cd99fe68006f"), looks := true }, kinds := [], alts := [], laidByText := true, laidKinds := [.sentinel, .data], laidTests := true, laidLooks := .later }
def FnExactTaxInUptoCardSaid : Prop := Claim7.holds Tryz.pinned (.plain (OpenSpec.upto fnExactTaxInSpec)) fnExactTaxInUptoCard

/-- THE SECOND FORM's CARD OF 'laws.FnExactPercent'. -/
def fnExactPercentUptoCard : Claim7 := { stood := { row := fnExactPercentUptoRow, standIns := [], harness := (true, "0b6687975953bbb9af2ba8bf7ce17c43e87ec32fde7dc62a0d98cd99fe68006f"), looks := true }, kinds := [], alts := [], laidByText := true, laidKinds := [.data, .data, .data, .sentinel], laidTests := true, laidLooks := .later }
def FnExactPercentUptoCardSaid : Prop := Claim7.holds Tryz.pinned (.plain (OpenSpec.upto fnExactPercentSpec)) fnExactPercentUptoCard

/-- THE SECOND FORM's CARD OF 'laws.FnExactTextPercent'. -/
def fnExactTextPercentUptoCard : Claim7 := { stood := { row := fnExactTextPercentUptoRow, standIns := [], harness := (true, "0b6687975953bbb9af2ba8bf7ce17c43e87ec32fde7dc62a0d98cd99fe68006f"), looks := true }, kinds := [], alts := [], laidByText := true, laidKinds := [.data, .data, .data, .data, .sentinel, .pinned], laidTests := true, laidLooks := .later }
def FnExactTextPercentUptoCardSaid : Prop := Claim7.holds Tryz.pinned (.plain (OpenSpec.upto fnExactTextPercentSpec)) fnExactTextPercentUptoCard
end Rows
end Go.Proofs.YtofehcpapdlcnaaGreatDoor
