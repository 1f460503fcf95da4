/-
  DERIVED. GIVEN WITH THE SEED: THE CARDS: each row of YtclgelopcgahaaaGreatDoorRows.lean that lists a variable, with what it lists TIED to the program's text (the seventh form; the later family's looks); each row that meets fmt, with fmt's text TOLD by the authors' own Lean function (tested against real Go, not proved from fmt's source: count such statements apart). THE CARD IS WHAT COUNTS. Prove the row's statement (the work); the ties are given (YtclgelopcgahaaaGreatDoorTie.lean); close each card by the builder's one call (the guide's Derived/Test/ToyasCard.lean, 'card_holds'). Laid BY PROGRAM, IN A SANDBOX (cutbox-door.mjs). By AI agents, Wed Nov 11 2026. No macro, syntax, notation, axiom, sorry.
-/
import Derived.Test.YtclgelopcgahaaaGreatDoorRows
import GoSem.ClaimSeven
namespace Go.Proofs.YtclgelopcgahaaaGreatDoor
namespace Rows

/-- THE TIED CARD OF 'laws.FnRound'. -/
def fnRoundCard : Claim7 := { stood := { row := fnRoundRow, standIns := [], harness := (true, "afc7fce0ca436885e631c96da693a1939a0f7a8eb9336e578fda5e4942653e22"), looks := true }, kinds := [], alts := [], laidByText := true, laidKinds := [.sentinel], laidTests := true, laidLooks := .later }
def FnRoundCardSaid : Prop := Claim7.holds Tryz.pinned (.plain (OpenSpec.ofChange fnRoundSpec)) fnRoundCard

/-- THE TIED CARD OF 'laws.FnExactRatRest'. -/
def fnExactRatRestCard : Claim7 := { stood := { row := fnExactRatRestRow, standIns := [], harness := (true, "afc7fce0ca436885e631c96da693a1939a0f7a8eb9336e578fda5e4942653e22"), looks := true }, kinds := [], alts := [], laidByText := true, laidKinds := [.sentinel], laidTests := true, laidLooks := .later }
def FnExactRatRestCardSaid : Prop := Claim7.holds Tryz.pinned (.plain (OpenSpec.ofChange fnExactRatRestSpec)) fnExactRatRestCard

/-- THE TIED CARD OF 'laws.FnExactRoundTo'. -/
def fnExactRoundToCard : Claim7 := { stood := { row := fnExactRoundToRow, standIns := [], harness := (true, "afc7fce0ca436885e631c96da693a1939a0f7a8eb9336e578fda5e4942653e22"), looks := true }, kinds := [], alts := [], laidByText := true, laidKinds := [.sentinel], laidTests := true, laidLooks := .later }
def FnExactRoundToCardSaid : Prop := Claim7.holds Tryz.pinned (.plain (OpenSpec.ofChange fnExactRoundToSpec)) fnExactRoundToCard

/-- THE SECOND FORM's CARD OF 'laws.FnRound'. -/
def fnRoundUptoCard : Claim7 := { stood := { row := fnRoundUptoRow, standIns := [], harness := (true, "afc7fce0ca436885e631c96da693a1939a0f7a8eb9336e578fda5e4942653e22"), looks := true }, kinds := [], alts := [], laidByText := true, laidKinds := [.sentinel], laidTests := true, laidLooks := .later }
def FnRoundUptoCardSaid : Prop := Claim7.holds Tryz.pinned (.plain (OpenSpec.upto fnRoundSpec)) fnRoundUptoCard

/-- THE SECOND FORM's CARD OF 'laws.FnExactRatRest'. -/
def fnExactRatRestUptoCard : Claim7 := { stood := { row := fnExactRatRestUptoRow, standIns := [], harness := (true, "afc7fce0ca436885e631c96da693a1939a0f7a8eb9336e578fda5e4942653e22"), looks := true }, kinds := [], alts := [], laidByText := true, laidKinds := [.sentinel], laidTests := true, laidLooks := .later }
def FnExactRatRestUptoCardSaid : Prop := Claim7.holds Tryz.pinned (.plain (OpenSpec.upto fnExactRatRestSpec)) fnExactRatRestUptoCard

/-- THE SECOND FORM's CARD OF 'laws.FnExactRoundTo'. -/
def fnExactRoundToUptoCard : Claim7 := { stood := { row := fnExactRoundToUptoRow, standIns := [], harness := (true, "afc7fce0ca436885e631c96da693a1939a0f7a8eb9336e578fda5e4942653e22"), looks := true }, kinds := [], alts := [], laidByText := true, laidKinds := [.sentinel], laidTests := true, laidLooks := .later }
def FnExactRoundToUptoCardSaid : Prop := Claim7.holds Tryz.pinned (.plain (OpenSpec.upto fnExactRoundToSpec)) fnExactRoundToUptoCard
end Rows
end Go.Proofs.YtclgelopcgahaaaGreatDoor
