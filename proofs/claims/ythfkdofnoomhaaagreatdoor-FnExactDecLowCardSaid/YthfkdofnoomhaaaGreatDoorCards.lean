/-
  DERIVED. GIVEN WITH THE SEED: THE CARDS: each row of YthfkdofnoomhaaaGreatDoorRows.lean that lists a variable, with what it lists TIED to the program's text (the seventh form; the later family's looks); each row that meets fmt, with fmt's text TOLD by the authors' own Lean function (tested against real Go, not proved from fmt's source: count such statements apart). THE CARD IS WHAT COUNTS. Prove the row's statement (the work); the ties are given (YthfkdofnoomhaaaGreatDoorTie.lean); close each card by the builder's one call (the guide's Derived/Test/ToyasCard.lean, 'card_holds'). Laid BY PROGRAM, IN A SANDBOX (cutbox-door.mjs). By AI agents, Wed Nov 11 2026. No macro, syntax, notation, axiom, sorry.
-/
import Derived.Test.YthfkdofnoomhaaaGreatDoorRows
import GoSem.ClaimSeven
namespace Go.Proofs.YthfkdofnoomhaaaGreatDoor
namespace Rows

/-- THE TIED CARD OF 'laws.FnExactRatDec'. -/
def fnExactRatDecCard : Claim7 := { stood := { row := fnExactRatDecRow, standIns := [], harness := (true, "090b4e125f7dff560d21ca37f5804ea340e9ce564dfa4edb1a21f27b069c60a8"), looks := true }, kinds := [], alts := [], laidByText := true, laidKinds := [.sentinel], laidTests := true, laidLooks := .later }
def FnExactRatDecCardSaid : Prop := Claim7.holds Tryz.pinned (.plain (OpenSpec.ofChange fnExactRatDecSpec)) fnExactRatDecCard

/-- THE TIED CARD OF 'laws.FnExactDecDiv'. -/
def fnExactDecDivCard : Claim7 := { stood := { row := fnExactDecDivRow, standIns := [], harness := (true, "090b4e125f7dff560d21ca37f5804ea340e9ce564dfa4edb1a21f27b069c60a8"), looks := true }, kinds := [], alts := [], laidByText := true, laidKinds := [.sentinel], laidTests := true, laidLooks := .later }
def FnExactDecDivCardSaid : Prop := Claim7.holds Tryz.pinned (.plain (OpenSpec.ofChange fnExactDecDivSpec)) fnExactDecDivCard

/-- THE TIED CARD OF 'laws.FnExactDecAt'. -/
def fnExactDecAtCard : Claim7 := { stood := { row := fnExactDecAtRow, standIns := [], harness := (true, "090b4e125f7dff560d21ca37f5804ea340e9ce564dfa4edb1a21f27b069c60a8"), looks := true }, kinds := [], alts := [], laidByText := true, laidKinds := [.sentinel], laidTests := true, laidLooks := .later }
def FnExactDecAtCardSaid : Prop := Claim7.holds Tryz.pinned (.plain (OpenSpec.ofChange fnExactDecAtSpec)) fnExactDecAtCard

/-- THE TIED CARD OF 'laws.FnExactDecLow'. -/
def fnExactDecLowCard : Claim7 := { stood := { row := fnExactDecLowRow, standIns := [], harness := (true, "090b4e125f7dff560d21ca37f5804ea340e9ce564dfa4edb1a21f27b069c60a8"), looks := true }, kinds := [], alts := [], laidByText := true, laidKinds := [.sentinel], laidTests := true, laidLooks := .later }
def FnExactDecLowCardSaid : Prop := Claim7.holds Tryz.pinned (.plain (OpenSpec.ofChange fnExactDecLowSpec)) fnExactDecLowCard

/-- THE TIED CARD OF 'laws.FnDec'. -/
def fnDecCard : Claim7 := { stood := { row := fnDecRow, standIns := [], harness := (true, "090b4e125f7dff560d21ca37f5804ea340e9ce564dfa4edb1a21f27b069c60a8"), looks := true }, kinds := [], alts := [], laidByText := true, laidKinds := [.data, .data, .data, .data, .sentinel, .pinned], laidTests := true, laidLooks := .later }
def FnDecCardSaid : Prop := Claim7.holds Tryz.pinned (.plain (OpenSpec.ofChange fnDecSpec)) fnDecCard

/-- THE TIED CARD OF 'laws.FnExactRatRest'. -/
def fnExactRatRestCard : Claim7 := { stood := { row := fnExactRatRestRow, standIns := [], harness := (true, "090b4e125f7dff560d21ca37f5804ea340e9ce564dfa4edb1a21f27b069c60a8"), looks := true }, kinds := [], alts := [], laidByText := true, laidKinds := [.sentinel], laidTests := true, laidLooks := .later }
def FnExactRatRestCardSaid : Prop := Claim7.holds Tryz.pinned (.plain (OpenSpec.ofChange fnExactRatRestSpec)) fnExactRatRestCard

/-- THE TIED CARD OF 'laws.FnExactRoundTo'. -/
def fnExactRoundToCard : Claim7 := { stood := { row := fnExactRoundToRow, standIns := [], harness := (true, "090b4e125f7dff560d21ca37f5804ea340e9ce564dfa4edb1a21f27b069c60a8"), looks := true }, kinds := [], alts := [], laidByText := true, laidKinds := [.sentinel], laidTests := true, laidLooks := .later }
def FnExactRoundToCardSaid : Prop := Claim7.holds Tryz.pinned (.plain (OpenSpec.ofChange fnExactRoundToSpec)) fnExactRoundToCard

/-- THE TIED CARD OF 'laws.FnRound'. -/
def fnRoundCard : Claim7 := { stood := { row := fnRoundRow, standIns := [], harness := (true, "090b4e125f7dff560d21ca37f5804ea340e9ce564dfa4edb1a21f27b069c60a8"), looks := true }, kinds := [], alts := [], laidByText := true, laidKinds := [.sentinel], laidTests := true, laidLooks := .later }
def FnRoundCardSaid : Prop := Claim7.holds Tryz.pinned (.plain (OpenSpec.ofChange fnRoundSpec)) fnRoundCard

/-- THE SECOND FORM's CARD OF 'laws.FnExactRatDec'. -/
def fnExactRatDecUptoCard : Claim7 := { stood := { row := fnExactRatDecUptoRow, standIns := [], harness := (true, "090b4e125f7dff560d21ca37f5804ea340e9ce564dfa4edb1a21f27b069c60a8"), looks := true }, kinds := [], alts := [], laidByText := true, laidKinds := [.sentinel], laidTests := true, laidLooks := .later }
def FnExactRatDecUptoCardSaid : Prop := Claim7.holds Tryz.pinned (.plain (OpenSpec.upto fnExactRatDecSpec)) fnExactRatDecUptoCard

/-- THE SECOND FORM's CARD OF 'laws.FnExactDecDiv'. -/
def fnExactDecDivUptoCard : Claim7 := { stood := { row := fnExactDecDivUptoRow, standIns := [], harness := (true, "090b4e125f7dff560d21ca37f5804ea340e9ce564dfa4edb1a21f27b069c60a8"), looks := true }, kinds := [], alts := [], laidByText := true, laidKinds := [.sentinel], laidTests := true, laidLooks := .later }
def FnExactDecDivUptoCardSaid : Prop := Claim7.holds Tryz.pinned (.plain (OpenSpec.upto fnExactDecDivSpec)) fnExactDecDivUptoCard

/-- THE SECOND FORM's CARD OF 'laws.FnExactDecAt'. -/
def fnExactDecAtUptoCard : Claim7 := { stood := { row := fnExactDecAtUptoRow, standIns := [], harness := (true, "090b4e125f7dff560d21ca37f5804ea340e9ce564dfa4edb1a21f27b069c60a8"), looks := true }, kinds := [], alts := [], laidByText := true, laidKinds := [.sentinel], laidTests := true, laidLooks := .later }
def FnExactDecAtUptoCardSaid : Prop := Claim7.holds Tryz.pinned (.plain (OpenSpec.upto fnExactDecAtSpec)) fnExactDecAtUptoCard

/-- THE SECOND FORM's CARD OF 'laws.FnExactDecLow'. -/
def fnExactDecLowUptoCard : Claim7 := { stood := { row := fnExactDecLowUptoRow, standIns := [], harness := (true, "090b4e125f7dff560d21ca37f5804ea340e9ce564dfa4edb1a21f27b069c60a8"), looks := true }, kinds := [], alts := [], laidByText := true, laidKinds := [.sentinel], laidTests := true, laidLooks := .later }
def FnExactDecLowUptoCardSaid : Prop := Claim7.holds Tryz.pinned (.plain (OpenSpec.upto fnExactDecLowSpec)) fnExactDecLowUptoCard

/-- THE SECOND FORM's CARD OF 'laws.FnDec'. -/
def fnDecUptoCard : Claim7 := { stood := { row := fnDecUptoRow, standIns := [], harness := (true, "090b4e125f7dff560d21ca37f5804ea340e9ce564dfa4edb1a21f27b069c60a8"), looks := true }, kinds := [], alts := [], laidByText := true, laidKinds := [.data, .data, .data, .data, .sentinel, .pinned], laidTests := true, laidLooks := .later }
def FnDecUptoCardSaid : Prop := Claim7.holds Tryz.pinned (.plain (OpenSpec.upto fnDecSpec)) fnDecUptoCard

/-- THE SECOND FORM's CARD OF 'laws.FnExactRatRest'. -/
def fnExactRatRestUptoCard : Claim7 := { stood := { row := fnExactRatRestUptoRow, standIns := [], harness := (true, "090b4e125f7dff560d21ca37f5804ea340e9ce564dfa4edb1a21f27b069c60a8"), looks := true }, kinds := [], alts := [], laidByText := true, laidKinds := [.sentinel], laidTests := true, laidLooks := .later }
def FnExactRatRestUptoCardSaid : Prop := Claim7.holds Tryz.pinned (.plain (OpenSpec.upto fnExactRatRestSpec)) fnExactRatRestUptoCard

/-- THE SECOND FORM's CARD OF 'laws.FnExactRoundTo'. -/
def fnExactRoundToUptoCard : Claim7 := { stood := { row := fnExactRoundToUptoRow, standIns := [], harness := (true, "090b4e125f7dff560d21ca37f5804ea340e9ce564dfa4edb1a21f27b069c60a8"), looks := true }, kinds := [], alts := [], laidByText := true, laidKinds := [.sentinel], laidTests := true, laidLooks := .later }
def FnExactRoundToUptoCardSaid : Prop := Claim7.holds Tryz.pinned (.plain (OpenSpec.upto fnExactRoundToSpec)) fnExactRoundToUptoCard

/-- THE SECOND FORM's CARD OF 'laws.FnRound'. -/
def fnRoundUptoCard : Claim7 := { stood := { row := fnRoundUptoRow, standIns := [], harness := (true, "090b4e125f7dff560d21ca37f5804ea340e9ce564dfa4edb1a21f27b069c60a8"), looks := true }, kinds := [], alts := [], laidByText := true, laidKinds := [.sentinel], laidTests := true, laidLooks := .later }
def FnRoundUptoCardSaid : Prop := Claim7.holds Tryz.pinned (.plain (OpenSpec.upto fnRoundSpec)) fnRoundUptoCard
end Rows
end Go.Proofs.YthfkdofnoomhaaaGreatDoor
