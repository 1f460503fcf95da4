/-
  DERIVED. GIVEN WITH THE SEED: THE CARDS: each row of YtbpfabicampdkaaGreatDoorRows.lean that lists a variable, with what it lists TIED to the program's text (the seventh form; the later family's looks); each row that meets fmt, with fmt's text TOLD by the authors' own Lean function (tested against real Go, not proved from fmt's source: count such statements apart). THE CARD IS WHAT COUNTS. Prove the row's statement (the work); the ties are given (YtbpfabicampdkaaGreatDoorTie.lean); close each card by the builder's one call (the guide's Derived/Test/ToyasCard.lean, 'card_holds'). Laid BY PROGRAM, IN A SANDBOX (cutbox-door.mjs). By AI agents, Wed Nov 11 2026. No macro, syntax, notation, axiom, sorry.
-/
import Derived.Test.YtbpfabicampdkaaGreatDoorRows
import GoSem.ClaimSeven
namespace Go.Proofs.YtbpfabicampdkaaGreatDoor
namespace Rows

/-- THE TIED CARD OF 'laws.FnRates'. -/
def fnRatesCard : Claim7 := { stood := { row := fnRatesRow, standIns := [], harness := (true, "73e3aa007266b4e5074718a1ec2268185b243f54d4f6b7de4cc5598e8b7c5ddc"), looks := true }, kinds := [], alts := [], laidByText := true, laidKinds := [.sentinel, .data], laidTests := true, laidLooks := .later }
def FnRatesCardSaid : Prop := Claim7.holds Tryz.pinned (.plain (OpenSpec.ofChange fnRatesSpec)) fnRatesCard

/-- THE TIED CARD OF 'laws.FnPut'. -/
def fnPutCard : Claim7 := { stood := { row := fnPutRow, standIns := [], harness := (true, "73e3aa007266b4e5074718a1ec2268185b243f54d4f6b7de4cc5598e8b7c5ddc"), looks := true }, kinds := [], alts := [], laidByText := true, laidKinds := [.data, .data, .data, .data, .sentinel, .data, .pinned], laidTests := true, laidLooks := .later }
def FnPutCardSaid : Prop := Claim7.holds Tryz.pinned (.plain (OpenSpec.ofChange fnPutSpec)) fnPutCard

/-- THE TIED CARD OF 'laws.FnExactRateHow'. -/
def fnExactRateHowCard : Claim7 := { stood := { row := fnExactRateHowRow, standIns := [], harness := (true, "73e3aa007266b4e5074718a1ec2268185b243f54d4f6b7de4cc5598e8b7c5ddc"), looks := true }, kinds := [], alts := [], laidByText := true, laidKinds := [.sentinel, .data], laidTests := true, laidLooks := .later }
def FnExactRateHowCardSaid : Prop := Claim7.holds Tryz.pinned (.plain (OpenSpec.ofChange fnExactRateHowSpec)) fnExactRateHowCard

/-- THE TIED CARD OF 'laws.FnExactRateOf'. -/
def fnExactRateOfCard : Claim7 := { stood := { row := fnExactRateOfRow, standIns := [], harness := (true, "73e3aa007266b4e5074718a1ec2268185b243f54d4f6b7de4cc5598e8b7c5ddc"), looks := true }, kinds := [], alts := [], laidByText := true, laidKinds := [.sentinel, .data], laidTests := true, laidLooks := .later }
def FnExactRateOfCardSaid : Prop := Claim7.holds Tryz.pinned (.plain (OpenSpec.ofChange fnExactRateOfSpec)) fnExactRateOfCard

/-- THE TIED CARD OF 'laws.FnExactRatePath'. -/
def fnExactRatePathCard : Claim7 := { stood := { row := fnExactRatePathRow, standIns := [], harness := (true, "73e3aa007266b4e5074718a1ec2268185b243f54d4f6b7de4cc5598e8b7c5ddc"), looks := true }, kinds := [], alts := [], laidByText := true, laidKinds := [.sentinel, .data], laidTests := true, laidLooks := .later }
def FnExactRatePathCardSaid : Prop := Claim7.holds Tryz.pinned (.plain (OpenSpec.ofChange fnExactRatePathSpec)) fnExactRatePathCard

/-- THE TIED CARD OF 'laws.FnExactTextRate'. -/
def fnExactTextRateCard : Claim7 := { stood := { row := fnExactTextRateRow, standIns := [], harness := (true, "73e3aa007266b4e5074718a1ec2268185b243f54d4f6b7de4cc5598e8b7c5ddc"), looks := true }, kinds := [], alts := [], laidByText := true, laidKinds := [.data, .data, .data, .data, .data, .pinned], laidTests := true, laidLooks := .later }
def FnExactTextRateCardSaid : Prop := Claim7.holds Tryz.pinned (.plain (OpenSpec.ofChange fnExactTextRateSpec)) fnExactTextRateCard

/-- THE SECOND FORM's CARD OF 'laws.FnRates'. -/
def fnRatesUptoCard : Claim7 := { stood := { row := fnRatesUptoRow, standIns := [], harness := (true, "73e3aa007266b4e5074718a1ec2268185b243f54d4f6b7de4cc5598e8b7c5ddc"), looks := true }, kinds := [], alts := [], laidByText := true, laidKinds := [.sentinel, .data], laidTests := true, laidLooks := .later }
def FnRatesUptoCardSaid : Prop := Claim7.holds Tryz.pinned (.plain (OpenSpec.upto fnRatesSpec)) fnRatesUptoCard

/-- THE SECOND FORM's CARD OF 'laws.FnPut'. -/
def fnPutUptoCard : Claim7 := { stood := { row := fnPutUptoRow, standIns := [], harness := (true, "73e3aa007266b4e5074718a1ec2268185b243f54d4f6b7de4cc5598e8b7c5ddc"), looks := true }, kinds := [], alts := [], laidByText := true, laidKinds := [.data, .data, .data, .data, .sentinel, .data, .pinned], laidTests := true, laidLooks := .later }
def FnPutUptoCardSaid : Prop := Claim7.holds Tryz.pinned (.plain (OpenSpec.upto fnPutSpec)) fnPutUptoCard

/-- THE SECOND FORM's CARD OF 'laws.FnExactRateHow'. -/
def fnExactRateHowUptoCard : Claim7 := { stood := { row := fnExactRateHowUptoRow, standIns := [], harness := (true, "73e3aa007266b4e5074718a1ec2268185b243f54d4f6b7de4cc5598e8b7c5ddc"), looks := true }, kinds := [], alts := [], laidByText := true, laidKinds := [.sentinel, .data], laidTests := true, laidLooks := .later }
def FnExactRateHowUptoCardSaid : Prop := Claim7.holds Tryz.pinned (.plain (OpenSpec.upto fnExactRateHowSpec)) fnExactRateHowUptoCard

/-- THE SECOND FORM's CARD OF 'laws.FnExactRateOf'. -/
def fnExactRateOfUptoCard : Claim7 := { stood := { row := fnExactRateOfUptoRow, standIns := [], harness := (true, "73e3aa007266b4e5074718a1ec2268185b243f54d4f6b7de4cc5598e8b7c5ddc"), looks := true }, kinds := [], alts := [], laidByText := true, laidKinds := [.sentinel, .data], laidTests := true, laidLooks := .later }
def FnExactRateOfUptoCardSaid : Prop := Claim7.holds Tryz.pinned (.plain (OpenSpec.upto fnExactRateOfSpec)) fnExactRateOfUptoCard

/-- THE SECOND FORM's CARD OF 'laws.FnExactRatePath'. -/
def fnExactRatePathUptoCard : Claim7 := { stood := { row := fnExactRatePathUptoRow, standIns := [], harness := (true, "73e3aa007266b4e5074718a1ec2268185b243f54d4f6b7de4cc5598e8b7c5ddc"), looks := true }, kinds := [], alts := [], laidByText := true, laidKinds := [.sentinel, .data], laidTests := true, laidLooks := .later }
def FnExactRatePathUptoCardSaid : Prop := Claim7.holds Tryz.pinned (.plain (OpenSpec.upto fnExactRatePathSpec)) fnExactRatePathUptoCard

/-- THE SECOND FORM's CARD OF 'laws.FnExactTextRate'. -/
def fnExactTextRateUptoCard : Claim7 := { stood := { row := fnExactTextRateUptoRow, standIns := [], harness := (true, "73e3aa007266b4e5074718a1ec2268185b243f54d4f6b7de4cc5598e8b7c5ddc"), looks := true }, kinds := [], alts := [], laidByText := true, laidKinds := [.data, .data, .data, .data, .data, .pinned], laidTests := true, laidLooks := .later }
def FnExactTextRateUptoCardSaid : Prop := Claim7.holds Tryz.pinned (.plain (OpenSpec.upto fnExactTextRateSpec)) fnExactTextRateUptoCard
end Rows
end Go.Proofs.YtbpfabicampdkaaGreatDoor
