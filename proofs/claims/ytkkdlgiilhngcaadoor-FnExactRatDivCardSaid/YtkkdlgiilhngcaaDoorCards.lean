/-
  DERIVED. GIVEN WITH THE SEED: THE CARDS: each row of YtkkdlgiilhngcaaDoorRows.lean that lists a variable, with what it lists TIED to the program's text (the seventh form; the later family's looks); each row that meets fmt, with fmt's text TOLD by the authors' own Lean function (tested against real Go, not proved from fmt's source: count such statements apart). THE CARD IS WHAT COUNTS. Prove the row's statement (the work); the ties are given (YtkkdlgiilhngcaaDoorTie.lean); close each card by the builder's one call (the guide's Derived/Test/ToyasCard.lean, 'card_holds'). Laid BY PROGRAM, IN A SANDBOX (cutbox-door.mjs). By AI agents, Wed Nov 11 2026. No macro, syntax, notation, axiom, sorry.
-/
import Derived.Test.YtkkdlgiilhngcaaDoorRows
import GoSem.ClaimSeven
namespace Go.Proofs.YtkkdlgiilhngcaaDoor
namespace Rows

/-- THE TIED CARD OF 'laws.FnExactRatOk'. -/
def fnExactRatOkCard : Claim7 := { stood := { row := fnExactRatOkRow, standIns := [], harness := (true, "0c5fe398c0b6a53f18d3b33528cb0a69613263239bc1ca3b52d9d565dac66adc"), looks := true }, kinds := [], alts := [], laidByText := true, laidKinds := [.sentinel], laidTests := true, laidLooks := .later }
def FnExactRatOkCardSaid : Prop := Claim7.holds Tryd.pinned (.plain (OpenSpec.ofChange fnExactRatOkSpec)) fnExactRatOkCard

/-- THE TIED CARD OF 'laws.FnExactRatMake'. -/
def fnExactRatMakeCard : Claim7 := { stood := { row := fnExactRatMakeRow, standIns := [], harness := (true, "0c5fe398c0b6a53f18d3b33528cb0a69613263239bc1ca3b52d9d565dac66adc"), looks := true }, kinds := [], alts := [], laidByText := true, laidKinds := [.sentinel], laidTests := true, laidLooks := .later }
def FnExactRatMakeCardSaid : Prop := Claim7.holds Tryd.pinned (.plain (OpenSpec.ofChange fnExactRatMakeSpec)) fnExactRatMakeCard

/-- THE TIED CARD OF 'laws.FnExactRatInt'. -/
def fnExactRatIntCard : Claim7 := { stood := { row := fnExactRatIntRow, standIns := [], harness := (true, "0c5fe398c0b6a53f18d3b33528cb0a69613263239bc1ca3b52d9d565dac66adc"), looks := true }, kinds := [], alts := [], laidByText := true, laidKinds := [.sentinel], laidTests := true, laidLooks := .later }
def FnExactRatIntCardSaid : Prop := Claim7.holds Tryd.pinned (.plain (OpenSpec.ofChange fnExactRatIntSpec)) fnExactRatIntCard

/-- THE TIED CARD OF 'laws.FnExactRatAdd'. -/
def fnExactRatAddCard : Claim7 := { stood := { row := fnExactRatAddRow, standIns := [], harness := (true, "0c5fe398c0b6a53f18d3b33528cb0a69613263239bc1ca3b52d9d565dac66adc"), looks := true }, kinds := [], alts := [], laidByText := true, laidKinds := [.sentinel], laidTests := true, laidLooks := .later }
def FnExactRatAddCardSaid : Prop := Claim7.holds Tryd.pinned (.plain (OpenSpec.ofChange fnExactRatAddSpec)) fnExactRatAddCard

/-- THE TIED CARD OF 'laws.FnExactRatNeg'. -/
def fnExactRatNegCard : Claim7 := { stood := { row := fnExactRatNegRow, standIns := [], harness := (true, "0c5fe398c0b6a53f18d3b33528cb0a69613263239bc1ca3b52d9d565dac66adc"), looks := true }, kinds := [], alts := [], laidByText := true, laidKinds := [.sentinel], laidTests := true, laidLooks := .later }
def FnExactRatNegCardSaid : Prop := Claim7.holds Tryd.pinned (.plain (OpenSpec.ofChange fnExactRatNegSpec)) fnExactRatNegCard

/-- THE TIED CARD OF 'laws.FnExactRatMul'. -/
def fnExactRatMulCard : Claim7 := { stood := { row := fnExactRatMulRow, standIns := [], harness := (true, "0c5fe398c0b6a53f18d3b33528cb0a69613263239bc1ca3b52d9d565dac66adc"), looks := true }, kinds := [], alts := [], laidByText := true, laidKinds := [.sentinel], laidTests := true, laidLooks := .later }
def FnExactRatMulCardSaid : Prop := Claim7.holds Tryd.pinned (.plain (OpenSpec.ofChange fnExactRatMulSpec)) fnExactRatMulCard

/-- THE TIED CARD OF 'laws.FnExactRatDiv'. -/
def fnExactRatDivCard : Claim7 := { stood := { row := fnExactRatDivRow, standIns := [], harness := (true, "0c5fe398c0b6a53f18d3b33528cb0a69613263239bc1ca3b52d9d565dac66adc"), looks := true }, kinds := [], alts := [], laidByText := true, laidKinds := [.sentinel], laidTests := true, laidLooks := .later }
def FnExactRatDivCardSaid : Prop := Claim7.holds Tryd.pinned (.plain (OpenSpec.ofChange fnExactRatDivSpec)) fnExactRatDivCard

/-- THE TIED CARD OF 'laws.FnExactRatCmp'. -/
def fnExactRatCmpCard : Claim7 := { stood := { row := fnExactRatCmpRow, standIns := [], harness := (true, "0c5fe398c0b6a53f18d3b33528cb0a69613263239bc1ca3b52d9d565dac66adc"), looks := true }, kinds := [], alts := [], laidByText := true, laidKinds := [.sentinel], laidTests := true, laidLooks := .later }
def FnExactRatCmpCardSaid : Prop := Claim7.holds Tryd.pinned (.plain (OpenSpec.ofChange fnExactRatCmpSpec)) fnExactRatCmpCard

/-- THE TIED CARD OF 'laws.FnExactRatSign'. -/
def fnExactRatSignCard : Claim7 := { stood := { row := fnExactRatSignRow, standIns := [], harness := (true, "0c5fe398c0b6a53f18d3b33528cb0a69613263239bc1ca3b52d9d565dac66adc"), looks := true }, kinds := [], alts := [], laidByText := true, laidKinds := [.sentinel], laidTests := true, laidLooks := .later }
def FnExactRatSignCardSaid : Prop := Claim7.holds Tryd.pinned (.plain (OpenSpec.ofChange fnExactRatSignSpec)) fnExactRatSignCard

/-- THE SECOND FORM's CARD OF 'laws.FnExactRatOk'. -/
def fnExactRatOkUptoCard : Claim7 := { stood := { row := fnExactRatOkUptoRow, standIns := [], harness := (true, "0c5fe398c0b6a53f18d3b33528cb0a69613263239bc1ca3b52d9d565dac66adc"), looks := true }, kinds := [], alts := [], laidByText := true, laidKinds := [.sentinel], laidTests := true, laidLooks := .later }
def FnExactRatOkUptoCardSaid : Prop := Claim7.holds Tryd.pinned (.plain (OpenSpec.upto fnExactRatOkSpec)) fnExactRatOkUptoCard

/-- THE SECOND FORM's CARD OF 'laws.FnExactRatMake'. -/
def fnExactRatMakeUptoCard : Claim7 := { stood := { row := fnExactRatMakeUptoRow, standIns := [], harness := (true, "0c5fe398c0b6a53f18d3b33528cb0a69613263239bc1ca3b52d9d565dac66adc"), looks := true }, kinds := [], alts := [], laidByText := true, laidKinds := [.sentinel], laidTests := true, laidLooks := .later }
def FnExactRatMakeUptoCardSaid : Prop := Claim7.holds Tryd.pinned (.plain (OpenSpec.upto fnExactRatMakeSpec)) fnExactRatMakeUptoCard

/-- THE SECOND FORM's CARD OF 'laws.FnExactRatInt'. -/
def fnExactRatIntUptoCard : Claim7 := { stood := { row := fnExactRatIntUptoRow, standIns := [], harness := (true, "0c5fe398c0b6a53f18d3b33528cb0a69613263239bc1ca3b52d9d565dac66adc"), looks := true }, kinds := [], alts := [], laidByText := true, laidKinds := [.sentinel], laidTests := true, laidLooks := .later }
def FnExactRatIntUptoCardSaid : Prop := Claim7.holds Tryd.pinned (.plain (OpenSpec.upto fnExactRatIntSpec)) fnExactRatIntUptoCard

/-- THE SECOND FORM's CARD OF 'laws.FnExactRatAdd'. -/
def fnExactRatAddUptoCard : Claim7 := { stood := { row := fnExactRatAddUptoRow, standIns := [], harness := (true, "0c5fe398c0b6a53f18d3b33528cb0a69613263239bc1ca3b52d9d565dac66adc"), looks := true }, kinds := [], alts := [], laidByText := true, laidKinds := [.sentinel], laidTests := true, laidLooks := .later }
def FnExactRatAddUptoCardSaid : Prop := Claim7.holds Tryd.pinned (.plain (OpenSpec.upto fnExactRatAddSpec)) fnExactRatAddUptoCard

/-- THE SECOND FORM's CARD OF 'laws.FnExactRatNeg'. -/
def fnExactRatNegUptoCard : Claim7 := { stood := { row := fnExactRatNegUptoRow, standIns := [], harness := (true, "0c5fe398c0b6a53f18d3b33528cb0a69613263239bc1ca3b52d9d565dac66adc"), looks := true }, kinds := [], alts := [], laidByText := true, laidKinds := [.sentinel], laidTests := true, laidLooks := .later }
def FnExactRatNegUptoCardSaid : Prop := Claim7.holds Tryd.pinned (.plain (OpenSpec.upto fnExactRatNegSpec)) fnExactRatNegUptoCard

/-- THE SECOND FORM's CARD OF 'laws.FnExactRatMul'. -/
def fnExactRatMulUptoCard : Claim7 := { stood := { row := fnExactRatMulUptoRow, standIns := [], harness := (true, "0c5fe398c0b6a53f18d3b33528cb0a69613263239bc1ca3b52d9d565dac66adc"), looks := true }, kinds := [], alts := [], laidByText := true, laidKinds := [.sentinel], laidTests := true, laidLooks := .later }
def FnExactRatMulUptoCardSaid : Prop := Claim7.holds Tryd.pinned (.plain (OpenSpec.upto fnExactRatMulSpec)) fnExactRatMulUptoCard

/-- THE SECOND FORM's CARD OF 'laws.FnExactRatDiv'. -/
def fnExactRatDivUptoCard : Claim7 := { stood := { row := fnExactRatDivUptoRow, standIns := [], harness := (true, "0c5fe398c0b6a53f18d3b33528cb0a69613263239bc1ca3b52d9d565dac66adc"), looks := true }, kinds := [], alts := [], laidByText := true, laidKinds := [.sentinel], laidTests := true, laidLooks := .later }
def FnExactRatDivUptoCardSaid : Prop := Claim7.holds Tryd.pinned (.plain (OpenSpec.upto fnExactRatDivSpec)) fnExactRatDivUptoCard

/-- THE SECOND FORM's CARD OF 'laws.FnExactRatCmp'. -/
def fnExactRatCmpUptoCard : Claim7 := { stood := { row := fnExactRatCmpUptoRow, standIns := [], harness := (true, "0c5fe398c0b6a53f18d3b33528cb0a69613263239bc1ca3b52d9d565dac66adc"), looks := true }, kinds := [], alts := [], laidByText := true, laidKinds := [.sentinel], laidTests := true, laidLooks := .later }
def FnExactRatCmpUptoCardSaid : Prop := Claim7.holds Tryd.pinned (.plain (OpenSpec.upto fnExactRatCmpSpec)) fnExactRatCmpUptoCard

/-- THE SECOND FORM's CARD OF 'laws.FnExactRatSign'. -/
def fnExactRatSignUptoCard : Claim7 := { stood := { row := fnExactRatSignUptoRow, standIns := [], harness := (true, "0c5fe398c0b6a53f18d3b33528cb0a69613263239bc1ca3b52d9d565dac66adc"), looks := true }, kinds := [], alts := [], laidByText := true, laidKinds := [.sentinel], laidTests := true, laidLooks := .later }
def FnExactRatSignUptoCardSaid : Prop := Claim7.holds Tryd.pinned (.plain (OpenSpec.upto fnExactRatSignSpec)) fnExactRatSignUptoCard
end Rows
end Go.Proofs.YtkkdlgiilhngcaaDoor
