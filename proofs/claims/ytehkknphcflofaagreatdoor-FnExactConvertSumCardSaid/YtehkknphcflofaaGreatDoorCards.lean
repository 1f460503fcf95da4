/-
  DERIVED. GIVEN WITH THE SEED: THE CARDS: each row of YtehkknphcflofaaGreatDoorRows.lean that lists a variable, with what it lists TIED to the program's text (the seventh form; the later family's looks); each row that meets fmt, with fmt's text TOLD by the authors' own Lean function (tested against real Go, not proved from fmt's source: count such statements apart). THE CARD IS WHAT COUNTS. Prove the row's statement (the work); the ties are given (YtehkknphcflofaaGreatDoorTie.lean); close each card by the builder's one call (the guide's Derived/Test/ToyasCard.lean, 'card_holds'). Laid BY PROGRAM, IN A SANDBOX (cutbox-door.mjs). By AI agents, Wed Nov 11 2026. No macro, syntax, notation, axiom, sorry.
-/
import Derived.Test.YtehkknphcflofaaGreatDoorRows
import GoSem.ClaimSeven
namespace Go.Proofs.YtehkknphcflofaaGreatDoor
namespace Rows

/-- THE TIED CARD OF 'laws.FnSwap'. -/
def fnSwapCard : Claim7 := { stood := { row := fnSwapRow, standIns := [], harness := (true, "76e5d3e1c5bedb8451797c1a9f903dcf341126c1d55e67207518c34af263cb8f"), looks := true }, kinds := [], alts := [], laidByText := true, laidKinds := [.handle, .sentinel, .data], laidTests := true, laidLooks := .later }
def FnSwapCardSaid : Prop := Claim7.holds Tryz.pinned (.plain (OpenSpec.ofChange fnSwapSpec)) fnSwapCard

/-- THE TIED CARD OF 'laws.FnRates'. -/
def fnRatesCard : Claim7 := { stood := { row := fnRatesRow, standIns := [], harness := (true, "76e5d3e1c5bedb8451797c1a9f903dcf341126c1d55e67207518c34af263cb8f"), looks := true }, kinds := [], alts := [], laidByText := true, laidKinds := [.sentinel, .data], laidTests := true, laidLooks := .later }
def FnRatesCardSaid : Prop := Claim7.holds Tryz.pinned (.plain (OpenSpec.ofChange fnRatesSpec)) fnRatesCard

/-- THE TIED CARD OF 'laws.FnPut'. -/
def fnPutCard : Claim7 := { stood := { row := fnPutRow, standIns := [], harness := (true, "76e5d3e1c5bedb8451797c1a9f903dcf341126c1d55e67207518c34af263cb8f"), looks := true }, kinds := [], alts := [], laidByText := true, laidKinds := [.data, .data, .data, .data, .sentinel, .data, .pinned], laidTests := true, laidLooks := .later }
def FnPutCardSaid : Prop := Claim7.holds Tryz.pinned (.plain (OpenSpec.ofChange fnPutSpec)) fnPutCard

/-- THE TIED CARD OF 'laws.FnNeeded'. -/
def fnNeededCard : Claim7 := { stood := { row := fnNeededRow, standIns := [], harness := (true, "76e5d3e1c5bedb8451797c1a9f903dcf341126c1d55e67207518c34af263cb8f"), looks := true }, kinds := [], alts := [], laidByText := true, laidKinds := [.sentinel, .data], laidTests := true, laidLooks := .later }
def FnNeededCardSaid : Prop := Claim7.holds Tryz.pinned (.plain (OpenSpec.ofChange fnNeededSpec)) fnNeededCard

/-- THE TIED CARD OF 'laws.FnSum'. -/
def fnSumCard : Claim7 := { stood := { row := fnSumRow, standIns := [], harness := (true, "76e5d3e1c5bedb8451797c1a9f903dcf341126c1d55e67207518c34af263cb8f"), looks := true }, kinds := [], alts := [], laidByText := true, laidKinds := [.handle, .sentinel, .data], laidTests := true, laidLooks := .later }
def FnSumCardSaid : Prop := Claim7.holds Tryz.pinned (.plain (OpenSpec.ofChange fnSumSpec)) fnSumCard

/-- THE TIED CARD OF 'laws.FnExactUnitRate'. -/
def fnExactUnitRateCard : Claim7 := { stood := { row := fnExactUnitRateRow, standIns := [], harness := (true, "76e5d3e1c5bedb8451797c1a9f903dcf341126c1d55e67207518c34af263cb8f"), looks := true }, kinds := [], alts := [], laidByText := true, laidKinds := [.sentinel, .data], laidTests := true, laidLooks := .later }
def FnExactUnitRateCardSaid : Prop := Claim7.holds Tryz.pinned (.plain (OpenSpec.ofChange fnExactUnitRateSpec)) fnExactUnitRateCard

/-- THE TIED CARD OF 'laws.FnExactExact'. -/
def fnExactExactCard : Claim7 := { stood := { row := fnExactExactRow, standIns := [], harness := (true, "76e5d3e1c5bedb8451797c1a9f903dcf341126c1d55e67207518c34af263cb8f"), looks := true }, kinds := [], alts := [], laidByText := true, laidKinds := [.sentinel, .data], laidTests := true, laidLooks := .later }
def FnExactExactCardSaid : Prop := Claim7.holds Tryz.pinned (.plain (OpenSpec.ofChange fnExactExactSpec)) fnExactExactCard

/-- THE TIED CARD OF 'laws.FnExactConvert'. -/
def fnExactConvertCard : Claim7 := { stood := { row := fnExactConvertRow, standIns := [], harness := (true, "76e5d3e1c5bedb8451797c1a9f903dcf341126c1d55e67207518c34af263cb8f"), looks := true }, kinds := [], alts := [], laidByText := true, laidKinds := [.handle, .sentinel, .data], laidTests := true, laidLooks := .later }
def FnExactConvertCardSaid : Prop := Claim7.holds Tryz.pinned (.plain (OpenSpec.ofChange fnExactConvertSpec)) fnExactConvertCard

/-- THE TIED CARD OF 'laws.FnExactNeeded'. -/
def fnExactNeededCard : Claim7 := { stood := { row := fnExactNeededRow, standIns := [], harness := (true, "76e5d3e1c5bedb8451797c1a9f903dcf341126c1d55e67207518c34af263cb8f"), looks := true }, kinds := [], alts := [], laidByText := true, laidKinds := [.sentinel, .data], laidTests := true, laidLooks := .later }
def FnExactNeededCardSaid : Prop := Claim7.holds Tryz.pinned (.plain (OpenSpec.ofChange fnExactNeededSpec)) fnExactNeededCard

/-- THE TIED CARD OF 'laws.FnExactConvertSum'. -/
def fnExactConvertSumCard : Claim7 := { stood := { row := fnExactConvertSumRow, standIns := [], harness := (true, "76e5d3e1c5bedb8451797c1a9f903dcf341126c1d55e67207518c34af263cb8f"), looks := true }, kinds := [], alts := [], laidByText := true, laidKinds := [.handle, .sentinel, .data], laidTests := true, laidLooks := .later }
def FnExactConvertSumCardSaid : Prop := Claim7.holds Tryz.pinned (.plain (OpenSpec.ofChange fnExactConvertSumSpec)) fnExactConvertSumCard

/-- THE SECOND FORM's CARD OF 'laws.FnSwap'. -/
def fnSwapUptoCard : Claim7 := { stood := { row := fnSwapUptoRow, standIns := [], harness := (true, "76e5d3e1c5bedb8451797c1a9f903dcf341126c1d55e67207518c34af263cb8f"), looks := true }, kinds := [], alts := [], laidByText := true, laidKinds := [.handle, .sentinel, .data], laidTests := true, laidLooks := .later }
def FnSwapUptoCardSaid : Prop := Claim7.holds Tryz.pinned (.plain (OpenSpec.upto fnSwapSpec)) fnSwapUptoCard

/-- THE SECOND FORM's CARD OF 'laws.FnRates'. -/
def fnRatesUptoCard : Claim7 := { stood := { row := fnRatesUptoRow, standIns := [], harness := (true, "76e5d3e1c5bedb8451797c1a9f903dcf341126c1d55e67207518c34af263cb8f"), looks := true }, kinds := [], alts := [], laidByText := true, laidKinds := [.sentinel, .data], laidTests := true, laidLooks := .later }
def FnRatesUptoCardSaid : Prop := Claim7.holds Tryz.pinned (.plain (OpenSpec.upto fnRatesSpec)) fnRatesUptoCard

/-- THE SECOND FORM's CARD OF 'laws.FnPut'. -/
def fnPutUptoCard : Claim7 := { stood := { row := fnPutUptoRow, standIns := [], harness := (true, "76e5d3e1c5bedb8451797c1a9f903dcf341126c1d55e67207518c34af263cb8f"), looks := true }, kinds := [], alts := [], laidByText := true, laidKinds := [.data, .data, .data, .data, .sentinel, .data, .pinned], laidTests := true, laidLooks := .later }
def FnPutUptoCardSaid : Prop := Claim7.holds Tryz.pinned (.plain (OpenSpec.upto fnPutSpec)) fnPutUptoCard

/-- THE SECOND FORM's CARD OF 'laws.FnNeeded'. -/
def fnNeededUptoCard : Claim7 := { stood := { row := fnNeededUptoRow, standIns := [], harness := (true, "76e5d3e1c5bedb8451797c1a9f903dcf341126c1d55e67207518c34af263cb8f"), looks := true }, kinds := [], alts := [], laidByText := true, laidKinds := [.sentinel, .data], laidTests := true, laidLooks := .later }
def FnNeededUptoCardSaid : Prop := Claim7.holds Tryz.pinned (.plain (OpenSpec.upto fnNeededSpec)) fnNeededUptoCard

/-- THE SECOND FORM's CARD OF 'laws.FnSum'. -/
def fnSumUptoCard : Claim7 := { stood := { row := fnSumUptoRow, standIns := [], harness := (true, "76e5d3e1c5bedb8451797c1a9f903dcf341126c1d55e67207518c34af263cb8f"), looks := true }, kinds := [], alts := [], laidByText := true, laidKinds := [.handle, .sentinel, .data], laidTests := true, laidLooks := .later }
def FnSumUptoCardSaid : Prop := Claim7.holds Tryz.pinned (.plain (OpenSpec.upto fnSumSpec)) fnSumUptoCard

/-- THE SECOND FORM's CARD OF 'laws.FnExactUnitRate'. -/
def fnExactUnitRateUptoCard : Claim7 := { stood := { row := fnExactUnitRateUptoRow, standIns := [], harness := (true, "76e5d3e1c5bedb8451797c1a9f903dcf341126c1d55e67207518c34af263cb8f"), looks := true }, kinds := [], alts := [], laidByText := true, laidKinds := [.sentinel, .data], laidTests := true, laidLooks := .later }
def FnExactUnitRateUptoCardSaid : Prop := Claim7.holds Tryz.pinned (.plain (OpenSpec.upto fnExactUnitRateSpec)) fnExactUnitRateUptoCard

/-- THE SECOND FORM's CARD OF 'laws.FnExactExact'. -/
def fnExactExactUptoCard : Claim7 := { stood := { row := fnExactExactUptoRow, standIns := [], harness := (true, "76e5d3e1c5bedb8451797c1a9f903dcf341126c1d55e67207518c34af263cb8f"), looks := true }, kinds := [], alts := [], laidByText := true, laidKinds := [.sentinel, .data], laidTests := true, laidLooks := .later }
def FnExactExactUptoCardSaid : Prop := Claim7.holds Tryz.pinned (.plain (OpenSpec.upto fnExactExactSpec)) fnExactExactUptoCard

/-- THE SECOND FORM's CARD OF 'laws.FnExactConvert'. -/
def fnExactConvertUptoCard : Claim7 := { stood := { row := fnExactConvertUptoRow, standIns := [], harness := (true, "76e5d3e1c5bedb8451797c1a9f903dcf341126c1d55e67207518c34af263cb8f"), looks := true }, kinds := [], alts := [], laidByText := true, laidKinds := [.handle, .sentinel, .data], laidTests := true, laidLooks := .later }
def FnExactConvertUptoCardSaid : Prop := Claim7.holds Tryz.pinned (.plain (OpenSpec.upto fnExactConvertSpec)) fnExactConvertUptoCard

/-- THE SECOND FORM's CARD OF 'laws.FnExactNeeded'. -/
def fnExactNeededUptoCard : Claim7 := { stood := { row := fnExactNeededUptoRow, standIns := [], harness := (true, "76e5d3e1c5bedb8451797c1a9f903dcf341126c1d55e67207518c34af263cb8f"), looks := true }, kinds := [], alts := [], laidByText := true, laidKinds := [.sentinel, .data], laidTests := true, laidLooks := .later }
def FnExactNeededUptoCardSaid : Prop := Claim7.holds Tryz.pinned (.plain (OpenSpec.upto fnExactNeededSpec)) fnExactNeededUptoCard

/-- THE SECOND FORM's CARD OF 'laws.FnExactConvertSum'. -/
def fnExactConvertSumUptoCard : Claim7 := { stood := { row := fnExactConvertSumUptoRow, standIns := [], harness := (true, "76e5d3e1c5bedb8451797c1a9f903dcf341126c1d55e67207518c34af263cb8f"), looks := true }, kinds := [], alts := [], laidByText := true, laidKinds := [.handle, .sentinel, .data], laidTests := true, laidLooks := .later }
def FnExactConvertSumUptoCardSaid : Prop := Claim7.holds Tryz.pinned (.plain (OpenSpec.upto fnExactConvertSumSpec)) fnExactConvertSumUptoCard
end Rows
end Go.Proofs.YtehkknphcflofaaGreatDoor
