/-
  DERIVED. GIVEN WITH THE SEED: THE CARDS: each row of YtbpfabicampdkaaDoorRows.lean that lists a variable, with what it lists TIED to the program's text (the seventh form; the later family's looks); each row that meets fmt, with fmt's text TOLD by the authors' own Lean function (tested against real Go, not proved from fmt's source: count such statements apart). THE CARD IS WHAT COUNTS. Prove the row's statement (the work); the ties are given (YtbpfabicampdkaaDoorTie.lean); close each card by the builder's one call (the guide's Derived/Test/ToyasCard.lean, 'card_holds'). Laid BY PROGRAM, IN A SANDBOX (cutbox-door.mjs). By AI agents, Wed Nov 11 2026. No macro, syntax, notation, axiom, sorry.
-/
import Derived.Test.YtbpfabicampdkaaDoorRows
import GoSem.ClaimSeven
namespace Go.Proofs.YtbpfabicampdkaaDoor
namespace Rows

/-- THE TIED CARD OF 'laws.FnExactRateOk'. -/
def fnExactRateOkCard : Claim7 := { stood := { row := fnExactRateOkRow, standIns := [], harness := (true, "f3f3ace8a6ae91ba85f3e4d269d3377a4d0d01ec00baa6c9d360fad491006a51"), looks := false }, kinds := [], alts := [], laidByText := true, laidKinds := [.data], laidTests := true, laidLooks := .later }
def FnExactRateOkCardSaid : Prop := Claim7.holds Tryd.pinned (.plain (OpenSpec.ofChange fnExactRateOkSpec)) fnExactRateOkCard

/-- THE TIED CARD OF 'laws.FnExactRatesOk'. -/
def fnExactRatesOkCard : Claim7 := { stood := { row := fnExactRatesOkRow, standIns := [], harness := (true, "f3f3ace8a6ae91ba85f3e4d269d3377a4d0d01ec00baa6c9d360fad491006a51"), looks := false }, kinds := [], alts := [], laidByText := true, laidKinds := [.data], laidTests := true, laidLooks := .later }
def FnExactRatesOkCardSaid : Prop := Claim7.holds Tryd.pinned (.plain (OpenSpec.ofChange fnExactRatesOkSpec)) fnExactRatesOkCard

/-- THE TIED CARD OF 'laws.FnExactRatePut'. -/
def fnExactRatePutCard : Claim7 := { stood := { row := fnExactRatePutRow, standIns := [], harness := (true, "f3f3ace8a6ae91ba85f3e4d269d3377a4d0d01ec00baa6c9d360fad491006a51"), looks := false }, kinds := [], alts := [], laidByText := true, laidKinds := [.data], laidTests := true, laidLooks := .later }
def FnExactRatePutCardSaid : Prop := Claim7.holds Tryd.pinned (.plain (OpenSpec.ofChange fnExactRatePutSpec)) fnExactRatePutCard

/-- THE TIED CARD OF 'laws.FnExactRateText'. -/
def fnExactRateTextCard : Claim7 := { stood := { row := fnExactRateTextRow, standIns := [], harness := (true, "f3f3ace8a6ae91ba85f3e4d269d3377a4d0d01ec00baa6c9d360fad491006a51"), looks := false }, kinds := [], alts := [], laidByText := true, laidKinds := [.data, .data, .data, .data], laidTests := true, laidLooks := .later }
def FnExactRateTextCardSaid : Prop := Claim7.holds Tryd.pinned (.plain (OpenSpec.ofChange fnExactRateTextSpec)) fnExactRateTextCard

/-- THE SECOND FORM's CARD OF 'laws.FnExactRateOk'. -/
def fnExactRateOkUptoCard : Claim7 := { stood := { row := fnExactRateOkUptoRow, standIns := [], harness := (true, "f3f3ace8a6ae91ba85f3e4d269d3377a4d0d01ec00baa6c9d360fad491006a51"), looks := false }, kinds := [], alts := [], laidByText := true, laidKinds := [.data], laidTests := true, laidLooks := .later }
def FnExactRateOkUptoCardSaid : Prop := Claim7.holds Tryd.pinned (.plain (OpenSpec.upto fnExactRateOkSpec)) fnExactRateOkUptoCard

/-- THE SECOND FORM's CARD OF 'laws.FnExactRatesOk'. -/
def fnExactRatesOkUptoCard : Claim7 := { stood := { row := fnExactRatesOkUptoRow, standIns := [], harness := (true, "f3f3ace8a6ae91ba85f3e4d269d3377a4d0d01ec00baa6c9d360fad491006a51"), looks := false }, kinds := [], alts := [], laidByText := true, laidKinds := [.data], laidTests := true, laidLooks := .later }
def FnExactRatesOkUptoCardSaid : Prop := Claim7.holds Tryd.pinned (.plain (OpenSpec.upto fnExactRatesOkSpec)) fnExactRatesOkUptoCard

/-- THE SECOND FORM's CARD OF 'laws.FnExactRatePut'. -/
def fnExactRatePutUptoCard : Claim7 := { stood := { row := fnExactRatePutUptoRow, standIns := [], harness := (true, "f3f3ace8a6ae91ba85f3e4d269d3377a4d0d01ec00baa6c9d360fad491006a51"), looks := false }, kinds := [], alts := [], laidByText := true, laidKinds := [.data], laidTests := true, laidLooks := .later }
def FnExactRatePutUptoCardSaid : Prop := Claim7.holds Tryd.pinned (.plain (OpenSpec.upto fnExactRatePutSpec)) fnExactRatePutUptoCard

/-- THE SECOND FORM's CARD OF 'laws.FnExactRateText'. -/
def fnExactRateTextUptoCard : Claim7 := { stood := { row := fnExactRateTextUptoRow, standIns := [], harness := (true, "f3f3ace8a6ae91ba85f3e4d269d3377a4d0d01ec00baa6c9d360fad491006a51"), looks := false }, kinds := [], alts := [], laidByText := true, laidKinds := [.data, .data, .data, .data], laidTests := true, laidLooks := .later }
def FnExactRateTextUptoCardSaid : Prop := Claim7.holds Tryd.pinned (.plain (OpenSpec.upto fnExactRateTextSpec)) fnExactRateTextUptoCard
end Rows
end Go.Proofs.YtbpfabicampdkaaDoor
