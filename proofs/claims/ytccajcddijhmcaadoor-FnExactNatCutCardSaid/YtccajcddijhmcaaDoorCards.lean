/-
  DERIVED. GIVEN WITH THE SEED: THE CARDS: each row of YtccajcddijhmcaaDoorRows.lean that lists a variable, with what it lists TIED to the program's text (the seventh form; the later family's looks); each row that meets fmt, with fmt's text TOLD by the authors' own Lean function (tested against real Go, not proved from fmt's source: count such statements apart). THE CARD IS WHAT COUNTS. Prove the row's statement (the work); the ties are given (YtccajcddijhmcaaDoorTie.lean); close each card by the builder's one call (the guide's Derived/Test/ToyasCard.lean, 'card_holds'). Laid BY PROGRAM, IN A SANDBOX (cutbox-door.mjs). By AI agents, Wed Nov 11 2026. No macro, syntax, notation, axiom, sorry.
-/
import Derived.Test.YtccajcddijhmcaaDoorRows
import GoSem.ClaimSeven
namespace Go.Proofs.YtccajcddijhmcaaDoor
namespace Rows

/-- THE TIED CARD OF 'laws.FnNat'. -/
def fnNatCard : Claim7 := { stood := { row := fnNatRow, standIns := [], harness := (true, "e580cd508b0e9570970db7271444220938a3f04bcce9b486ca2a9a6eb09d8491"), looks := true }, kinds := [], alts := [], laidByText := true, laidKinds := [.data, .data, .data, .sentinel], laidTests := true, laidLooks := .later }
def FnNatCardSaid : Prop := Claim7.holds Tryd.pinned (.plain (OpenSpec.ofChange fnNatSpec)) fnNatCard

/-- THE TIED CARD OF 'laws.FnExactNatDiv'. -/
def fnExactNatDivCard : Claim7 := { stood := { row := fnExactNatDivRow, standIns := [], harness := (true, "e580cd508b0e9570970db7271444220938a3f04bcce9b486ca2a9a6eb09d8491"), looks := true }, kinds := [], alts := [], laidByText := true, laidKinds := [.sentinel], laidTests := true, laidLooks := .later }
def FnExactNatDivCardSaid : Prop := Claim7.holds Tryd.pinned (.plain (OpenSpec.ofChange fnExactNatDivSpec)) fnExactNatDivCard

/-- THE TIED CARD OF 'laws.FnExactNatGcd'. -/
def fnExactNatGcdCard : Claim7 := { stood := { row := fnExactNatGcdRow, standIns := [], harness := (true, "e580cd508b0e9570970db7271444220938a3f04bcce9b486ca2a9a6eb09d8491"), looks := true }, kinds := [], alts := [], laidByText := true, laidKinds := [.sentinel], laidTests := true, laidLooks := .later }
def FnExactNatGcdCardSaid : Prop := Claim7.holds Tryd.pinned (.plain (OpenSpec.ofChange fnExactNatGcdSpec)) fnExactNatGcdCard

/-- THE TIED CARD OF 'laws.FnExactNatCut'. -/
def fnExactNatCutCard : Claim7 := { stood := { row := fnExactNatCutRow, standIns := [], harness := (true, "e580cd508b0e9570970db7271444220938a3f04bcce9b486ca2a9a6eb09d8491"), looks := true }, kinds := [], alts := [], laidByText := true, laidKinds := [.sentinel], laidTests := true, laidLooks := .later }
def FnExactNatCutCardSaid : Prop := Claim7.holds Tryd.pinned (.plain (OpenSpec.ofChange fnExactNatCutSpec)) fnExactNatCutCard

/-- THE SECOND FORM's CARD OF 'laws.FnNat'. -/
def fnNatUptoCard : Claim7 := { stood := { row := fnNatUptoRow, standIns := [], harness := (true, "e580cd508b0e9570970db7271444220938a3f04bcce9b486ca2a9a6eb09d8491"), looks := true }, kinds := [], alts := [], laidByText := true, laidKinds := [.data, .data, .data, .sentinel], laidTests := true, laidLooks := .later }
def FnNatUptoCardSaid : Prop := Claim7.holds Tryd.pinned (.plain (OpenSpec.upto fnNatSpec)) fnNatUptoCard

/-- THE SECOND FORM's CARD OF 'laws.FnExactNatDiv'. -/
def fnExactNatDivUptoCard : Claim7 := { stood := { row := fnExactNatDivUptoRow, standIns := [], harness := (true, "e580cd508b0e9570970db7271444220938a3f04bcce9b486ca2a9a6eb09d8491"), looks := true }, kinds := [], alts := [], laidByText := true, laidKinds := [.sentinel], laidTests := true, laidLooks := .later }
def FnExactNatDivUptoCardSaid : Prop := Claim7.holds Tryd.pinned (.plain (OpenSpec.upto fnExactNatDivSpec)) fnExactNatDivUptoCard

/-- THE SECOND FORM's CARD OF 'laws.FnExactNatGcd'. -/
def fnExactNatGcdUptoCard : Claim7 := { stood := { row := fnExactNatGcdUptoRow, standIns := [], harness := (true, "e580cd508b0e9570970db7271444220938a3f04bcce9b486ca2a9a6eb09d8491"), looks := true }, kinds := [], alts := [], laidByText := true, laidKinds := [.sentinel], laidTests := true, laidLooks := .later }
def FnExactNatGcdUptoCardSaid : Prop := Claim7.holds Tryd.pinned (.plain (OpenSpec.upto fnExactNatGcdSpec)) fnExactNatGcdUptoCard

/-- THE SECOND FORM's CARD OF 'laws.FnExactNatCut'. -/
def fnExactNatCutUptoCard : Claim7 := { stood := { row := fnExactNatCutUptoRow, standIns := [], harness := (true, "e580cd508b0e9570970db7271444220938a3f04bcce9b486ca2a9a6eb09d8491"), looks := true }, kinds := [], alts := [], laidByText := true, laidKinds := [.sentinel], laidTests := true, laidLooks := .later }
def FnExactNatCutUptoCardSaid : Prop := Claim7.holds Tryd.pinned (.plain (OpenSpec.upto fnExactNatCutSpec)) fnExactNatCutUptoCard
end Rows
end Go.Proofs.YtccajcddijhmcaaDoor
