/-
  DERIVED. GIVEN WITH THE SEED: THE CARDS: each row of YtclgelopcgahaaaDoorRows.lean that lists a variable, with what it lists TIED to the program's text (the seventh form; the later family's looks); each row that meets fmt, with fmt's text TOLD by the authors' own Lean function (tested against real Go, not proved from fmt's source: count such statements apart). THE CARD IS WHAT COUNTS. Prove the row's statement (the work); the ties are given (YtclgelopcgahaaaDoorTie.lean); close each card by the builder's one call (the guide's Derived/Test/ToyasCard.lean, 'card_holds'). Laid BY PROGRAM, IN A SANDBOX (cutbox-door.mjs). By AI agents, Wed Nov 11 2026. No macro, syntax, notation, axiom, sorry.
-/
import Derived.Test.YtclgelopcgahaaaDoorRows
import GoSem.ClaimSeven
namespace Go.Proofs.YtclgelopcgahaaaDoor
namespace Rows

/-- THE TIED CARD OF 'laws.FnModes'. -/
def fnModesCard : Claim7 := { stood := { row := fnModesRow, standIns := [], harness := (true, "06650265e20129b04e98c8c6e31ade3055f74cf20bfa52198b87b14bd5abcdeb"), looks := true }, kinds := [], alts := [], laidByText := true, laidKinds := [.sentinel], laidTests := true, laidLooks := .later }
def FnModesCardSaid : Prop := Claim7.holds Tryd.pinned (.plain (OpenSpec.ofChange fnModesSpec)) fnModesCard

/-- THE TIED CARD OF 'laws.FnStep'. -/
def fnStepCard : Claim7 := { stood := { row := fnStepRow, standIns := [], harness := (true, "06650265e20129b04e98c8c6e31ade3055f74cf20bfa52198b87b14bd5abcdeb"), looks := true }, kinds := [], alts := [], laidByText := true, laidKinds := [.sentinel], laidTests := true, laidLooks := .later }
def FnStepCardSaid : Prop := Claim7.holds Tryd.pinned (.plain (OpenSpec.ofChange fnStepSpec)) fnStepCard

/-- THE TIED CARD OF 'laws.FnExactRatRound'. -/
def fnExactRatRoundCard : Claim7 := { stood := { row := fnExactRatRoundRow, standIns := [], harness := (true, "06650265e20129b04e98c8c6e31ade3055f74cf20bfa52198b87b14bd5abcdeb"), looks := true }, kinds := [], alts := [], laidByText := true, laidKinds := [.sentinel], laidTests := true, laidLooks := .later }
def FnExactRatRoundCardSaid : Prop := Claim7.holds Tryd.pinned (.plain (OpenSpec.ofChange fnExactRatRoundSpec)) fnExactRatRoundCard

/-- THE TIED CARD OF 'laws.FnExactRatFloor'. -/
def fnExactRatFloorCard : Claim7 := { stood := { row := fnExactRatFloorRow, standIns := [], harness := (true, "06650265e20129b04e98c8c6e31ade3055f74cf20bfa52198b87b14bd5abcdeb"), looks := true }, kinds := [], alts := [], laidByText := true, laidKinds := [.sentinel], laidTests := true, laidLooks := .later }
def FnExactRatFloorCardSaid : Prop := Claim7.holds Tryd.pinned (.plain (OpenSpec.ofChange fnExactRatFloorSpec)) fnExactRatFloorCard

/-- THE TIED CARD OF 'laws.FnExactRatWhole'. -/
def fnExactRatWholeCard : Claim7 := { stood := { row := fnExactRatWholeRow, standIns := [], harness := (true, "06650265e20129b04e98c8c6e31ade3055f74cf20bfa52198b87b14bd5abcdeb"), looks := true }, kinds := [], alts := [], laidByText := true, laidKinds := [.sentinel], laidTests := true, laidLooks := .later }
def FnExactRatWholeCardSaid : Prop := Claim7.holds Tryd.pinned (.plain (OpenSpec.ofChange fnExactRatWholeSpec)) fnExactRatWholeCard

/-- THE TIED CARD OF 'laws.FnExactRatHalf'. -/
def fnExactRatHalfCard : Claim7 := { stood := { row := fnExactRatHalfRow, standIns := [], harness := (true, "06650265e20129b04e98c8c6e31ade3055f74cf20bfa52198b87b14bd5abcdeb"), looks := true }, kinds := [], alts := [], laidByText := true, laidKinds := [.sentinel], laidTests := true, laidLooks := .later }
def FnExactRatHalfCardSaid : Prop := Claim7.holds Tryd.pinned (.plain (OpenSpec.ofChange fnExactRatHalfSpec)) fnExactRatHalfCard

/-- THE SECOND FORM's CARD OF 'laws.FnModes'. -/
def fnModesUptoCard : Claim7 := { stood := { row := fnModesUptoRow, standIns := [], harness := (true, "06650265e20129b04e98c8c6e31ade3055f74cf20bfa52198b87b14bd5abcdeb"), looks := true }, kinds := [], alts := [], laidByText := true, laidKinds := [.sentinel], laidTests := true, laidLooks := .later }
def FnModesUptoCardSaid : Prop := Claim7.holds Tryd.pinned (.plain (OpenSpec.upto fnModesSpec)) fnModesUptoCard

/-- THE SECOND FORM's CARD OF 'laws.FnStep'. -/
def fnStepUptoCard : Claim7 := { stood := { row := fnStepUptoRow, standIns := [], harness := (true, "06650265e20129b04e98c8c6e31ade3055f74cf20bfa52198b87b14bd5abcdeb"), looks := true }, kinds := [], alts := [], laidByText := true, laidKinds := [.sentinel], laidTests := true, laidLooks := .later }
def FnStepUptoCardSaid : Prop := Claim7.holds Tryd.pinned (.plain (OpenSpec.upto fnStepSpec)) fnStepUptoCard

/-- THE SECOND FORM's CARD OF 'laws.FnExactRatRound'. -/
def fnExactRatRoundUptoCard : Claim7 := { stood := { row := fnExactRatRoundUptoRow, standIns := [], harness := (true, "06650265e20129b04e98c8c6e31ade3055f74cf20bfa52198b87b14bd5abcdeb"), looks := true }, kinds := [], alts := [], laidByText := true, laidKinds := [.sentinel], laidTests := true, laidLooks := .later }
def FnExactRatRoundUptoCardSaid : Prop := Claim7.holds Tryd.pinned (.plain (OpenSpec.upto fnExactRatRoundSpec)) fnExactRatRoundUptoCard

/-- THE SECOND FORM's CARD OF 'laws.FnExactRatFloor'. -/
def fnExactRatFloorUptoCard : Claim7 := { stood := { row := fnExactRatFloorUptoRow, standIns := [], harness := (true, "06650265e20129b04e98c8c6e31ade3055f74cf20bfa52198b87b14bd5abcdeb"), looks := true }, kinds := [], alts := [], laidByText := true, laidKinds := [.sentinel], laidTests := true, laidLooks := .later }
def FnExactRatFloorUptoCardSaid : Prop := Claim7.holds Tryd.pinned (.plain (OpenSpec.upto fnExactRatFloorSpec)) fnExactRatFloorUptoCard

/-- THE SECOND FORM's CARD OF 'laws.FnExactRatWhole'. -/
def fnExactRatWholeUptoCard : Claim7 := { stood := { row := fnExactRatWholeUptoRow, standIns := [], harness := (true, "06650265e20129b04e98c8c6e31ade3055f74cf20bfa52198b87b14bd5abcdeb"), looks := true }, kinds := [], alts := [], laidByText := true, laidKinds := [.sentinel], laidTests := true, laidLooks := .later }
def FnExactRatWholeUptoCardSaid : Prop := Claim7.holds Tryd.pinned (.plain (OpenSpec.upto fnExactRatWholeSpec)) fnExactRatWholeUptoCard

/-- THE SECOND FORM's CARD OF 'laws.FnExactRatHalf'. -/
def fnExactRatHalfUptoCard : Claim7 := { stood := { row := fnExactRatHalfUptoRow, standIns := [], harness := (true, "06650265e20129b04e98c8c6e31ade3055f74cf20bfa52198b87b14bd5abcdeb"), looks := true }, kinds := [], alts := [], laidByText := true, laidKinds := [.sentinel], laidTests := true, laidLooks := .later }
def FnExactRatHalfUptoCardSaid : Prop := Claim7.holds Tryd.pinned (.plain (OpenSpec.upto fnExactRatHalfSpec)) fnExactRatHalfUptoCard
end Rows
end Go.Proofs.YtclgelopcgahaaaDoor
