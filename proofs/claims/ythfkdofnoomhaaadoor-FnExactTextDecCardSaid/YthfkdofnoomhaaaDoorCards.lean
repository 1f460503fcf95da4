/-
  DERIVED. GIVEN WITH THE SEED: THE CARDS: each row of YthfkdofnoomhaaaDoorRows.lean that lists a variable, with what it lists TIED to the program's text (the seventh form; the later family's looks); each row that meets fmt, with fmt's text TOLD by the authors' own Lean function (tested against real Go, not proved from fmt's source: count such statements apart). THE CARD IS WHAT COUNTS. Prove the row's statement (the work); the ties are given (YthfkdofnoomhaaaDoorTie.lean); close each card by the builder's one call (the guide's Derived/Test/ToyasCard.lean, 'card_holds'). Laid BY PROGRAM, IN A SANDBOX (cutbox-door.mjs). By AI agents, Wed Nov 11 2026. No macro, syntax, notation, axiom, sorry.
-/
import Derived.Test.YthfkdofnoomhaaaDoorRows
import GoSem.ClaimSeven
namespace Go.Proofs.YthfkdofnoomhaaaDoor
namespace Rows

/-- THE TIED CARD OF 'laws.FnExactDecRat'. -/
def fnExactDecRatCard : Claim7 := { stood := { row := fnExactDecRatRow, standIns := [], harness := (true, "4eef43b8feb522548fae004ed2ebf98c9e6d294c4c44ff4543beaabcf22f80ae"), looks := true }, kinds := [], alts := [], laidByText := true, laidKinds := [.sentinel], laidTests := true, laidLooks := .later }
def FnExactDecRatCardSaid : Prop := Claim7.holds Tryd.pinned (.plain (OpenSpec.ofChange fnExactDecRatSpec)) fnExactDecRatCard

/-- THE TIED CARD OF 'laws.FnExactDecText'. -/
def fnExactDecTextCard : Claim7 := { stood := { row := fnExactDecTextRow, standIns := [], harness := (true, "4eef43b8feb522548fae004ed2ebf98c9e6d294c4c44ff4543beaabcf22f80ae"), looks := true }, kinds := [], alts := [], laidByText := true, laidKinds := [.data, .data, .data], laidTests := true, laidLooks := .later }
def FnExactDecTextCardSaid : Prop := Claim7.holds Tryd.pinned (.plain (OpenSpec.ofChange fnExactDecTextSpec)) fnExactDecTextCard

/-- THE TIED CARD OF 'laws.FnExactTextDec'. -/
def fnExactTextDecCard : Claim7 := { stood := { row := fnExactTextDecRow, standIns := [], harness := (true, "4eef43b8feb522548fae004ed2ebf98c9e6d294c4c44ff4543beaabcf22f80ae"), looks := true }, kinds := [], alts := [], laidByText := true, laidKinds := [.data, .data, .data, .data, .pinned], laidTests := true, laidLooks := .later }
def FnExactTextDecCardSaid : Prop := Claim7.holds Tryd.pinned (.plain (OpenSpec.ofChange fnExactTextDecSpec)) fnExactTextDecCard

/-- THE TIED CARD OF 'laws.FnExactRatRound'. -/
def fnExactRatRoundCard : Claim7 := { stood := { row := fnExactRatRoundRow, standIns := [], harness := (true, "4eef43b8feb522548fae004ed2ebf98c9e6d294c4c44ff4543beaabcf22f80ae"), looks := true }, kinds := [], alts := [], laidByText := true, laidKinds := [.sentinel], laidTests := true, laidLooks := .later }
def FnExactRatRoundCardSaid : Prop := Claim7.holds Tryd.pinned (.plain (OpenSpec.ofChange fnExactRatRoundSpec)) fnExactRatRoundCard

/-- THE TIED CARD OF 'laws.FnExactRatFloor'. -/
def fnExactRatFloorCard : Claim7 := { stood := { row := fnExactRatFloorRow, standIns := [], harness := (true, "4eef43b8feb522548fae004ed2ebf98c9e6d294c4c44ff4543beaabcf22f80ae"), looks := true }, kinds := [], alts := [], laidByText := true, laidKinds := [.sentinel], laidTests := true, laidLooks := .later }
def FnExactRatFloorCardSaid : Prop := Claim7.holds Tryd.pinned (.plain (OpenSpec.ofChange fnExactRatFloorSpec)) fnExactRatFloorCard

/-- THE TIED CARD OF 'laws.FnModes'. -/
def fnModesCard : Claim7 := { stood := { row := fnModesRow, standIns := [], harness := (true, "4eef43b8feb522548fae004ed2ebf98c9e6d294c4c44ff4543beaabcf22f80ae"), looks := true }, kinds := [], alts := [], laidByText := true, laidKinds := [.sentinel], laidTests := true, laidLooks := .later }
def FnModesCardSaid : Prop := Claim7.holds Tryd.pinned (.plain (OpenSpec.ofChange fnModesSpec)) fnModesCard

/-- THE TIED CARD OF 'laws.FnStep'. -/
def fnStepCard : Claim7 := { stood := { row := fnStepRow, standIns := [], harness := (true, "4eef43b8feb522548fae004ed2ebf98c9e6d294c4c44ff4543beaabcf22f80ae"), looks := true }, kinds := [], alts := [], laidByText := true, laidKinds := [.sentinel], laidTests := true, laidLooks := .later }
def FnStepCardSaid : Prop := Claim7.holds Tryd.pinned (.plain (OpenSpec.ofChange fnStepSpec)) fnStepCard

/-- THE SECOND FORM's CARD OF 'laws.FnExactDecRat'. -/
def fnExactDecRatUptoCard : Claim7 := { stood := { row := fnExactDecRatUptoRow, standIns := [], harness := (true, "4eef43b8feb522548fae004ed2ebf98c9e6d294c4c44ff4543beaabcf22f80ae"), looks := true }, kinds := [], alts := [], laidByText := true, laidKinds := [.sentinel], laidTests := true, laidLooks := .later }
def FnExactDecRatUptoCardSaid : Prop := Claim7.holds Tryd.pinned (.plain (OpenSpec.upto fnExactDecRatSpec)) fnExactDecRatUptoCard

/-- THE SECOND FORM's CARD OF 'laws.FnExactDecText'. -/
def fnExactDecTextUptoCard : Claim7 := { stood := { row := fnExactDecTextUptoRow, standIns := [], harness := (true, "4eef43b8feb522548fae004ed2ebf98c9e6d294c4c44ff4543beaabcf22f80ae"), looks := true }, kinds := [], alts := [], laidByText := true, laidKinds := [.data, .data, .data], laidTests := true, laidLooks := .later }
def FnExactDecTextUptoCardSaid : Prop := Claim7.holds Tryd.pinned (.plain (OpenSpec.upto fnExactDecTextSpec)) fnExactDecTextUptoCard

/-- THE SECOND FORM's CARD OF 'laws.FnExactTextDec'. -/
def fnExactTextDecUptoCard : Claim7 := { stood := { row := fnExactTextDecUptoRow, standIns := [], harness := (true, "4eef43b8feb522548fae004ed2ebf98c9e6d294c4c44ff4543beaabcf22f80ae"), looks := true }, kinds := [], alts := [], laidByText := true, laidKinds := [.data, .data, .data, .data, .pinned], laidTests := true, laidLooks := .later }
def FnExactTextDecUptoCardSaid : Prop := Claim7.holds Tryd.pinned (.plain (OpenSpec.upto fnExactTextDecSpec)) fnExactTextDecUptoCard

/-- THE SECOND FORM's CARD OF 'laws.FnExactRatRound'. -/
def fnExactRatRoundUptoCard : Claim7 := { stood := { row := fnExactRatRoundUptoRow, standIns := [], harness := (true, "4eef43b8feb522548fae004ed2ebf98c9e6d294c4c44ff4543beaabcf22f80ae"), looks := true }, kinds := [], alts := [], laidByText := true, laidKinds := [.sentinel], laidTests := true, laidLooks := .later }
def FnExactRatRoundUptoCardSaid : Prop := Claim7.holds Tryd.pinned (.plain (OpenSpec.upto fnExactRatRoundSpec)) fnExactRatRoundUptoCard

/-- THE SECOND FORM's CARD OF 'laws.FnExactRatFloor'. -/
def fnExactRatFloorUptoCard : Claim7 := { stood := { row := fnExactRatFloorUptoRow, standIns := [], harness := (true, "4eef43b8feb522548fae004ed2ebf98c9e6d294c4c44ff4543beaabcf22f80ae"), looks := true }, kinds := [], alts := [], laidByText := true, laidKinds := [.sentinel], laidTests := true, laidLooks := .later }
def FnExactRatFloorUptoCardSaid : Prop := Claim7.holds Tryd.pinned (.plain (OpenSpec.upto fnExactRatFloorSpec)) fnExactRatFloorUptoCard

/-- THE SECOND FORM's CARD OF 'laws.FnModes'. -/
def fnModesUptoCard : Claim7 := { stood := { row := fnModesUptoRow, standIns := [], harness := (true, "4eef43b8feb522548fae004ed2ebf98c9e6d294c4c44ff4543beaabcf22f80ae"), looks := true }, kinds := [], alts := [], laidByText := true, laidKinds := [.sentinel], laidTests := true, laidLooks := .later }
def FnModesUptoCardSaid : Prop := Claim7.holds Tryd.pinned (.plain (OpenSpec.upto fnModesSpec)) fnModesUptoCard

/-- THE SECOND FORM's CARD OF 'laws.FnStep'. -/
def fnStepUptoCard : Claim7 := { stood := { row := fnStepUptoRow, standIns := [], harness := (true, "4eef43b8feb522548fae004ed2ebf98c9e6d294c4c44ff4543beaabcf22f80ae"), looks := true }, kinds := [], alts := [], laidByText := true, laidKinds := [.sentinel], laidTests := true, laidLooks := .later }
def FnStepUptoCardSaid : Prop := Claim7.holds Tryd.pinned (.plain (OpenSpec.upto fnStepSpec)) fnStepUptoCard
end Rows
end Go.Proofs.YthfkdofnoomhaaaDoor
