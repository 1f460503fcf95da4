/-
  DERIVED. GIVEN WITH THE SEED: THE CARDS: each row of YtofehcpapdlcnabGreatDoorRows.lean that lists a variable, with what it lists TIED to the program's text (the seventh form; the later family's looks); each row that meets fmt, with fmt's text TOLD by the authors' own Lean function (tested against real Go, not proved from fmt's source: count such statements apart). THE CARD IS WHAT COUNTS. Prove the row's statement (the work); the ties are given (YtofehcpapdlcnabGreatDoorTie.lean); close each card by the builder's one call (the guide's Derived/Test/ToyasCard.lean, 'card_holds'). Laid BY PROGRAM, IN A SANDBOX (cutbox-door.mjs). By AI agents, Wed Nov 11 2026. No macro, syntax, notation, axiom, sorry.
-/
import Derived.Test.YtofehcpapdlcnabGreatDoorRows
import GoSem.ClaimSeven
namespace Go.Proofs.YtofehcpapdlcnabGreatDoor
namespace Rows

/-- THE TIED CARD OF 'laws.FnExactSharesOk'. -/
def fnExactSharesOkCard : Claim7 := { stood := { row := fnExactSharesOkRow, standIns := [], harness := (true, "8a5455408aacda78a24516ae30c81dc0d7ca21a431a2b66897ea8f40578782b3"), looks := true }, kinds := [], alts := [], laidByText := true, laidKinds := [.sentinel], laidTests := true, laidLooks := .later }
def FnExactSharesOkCardSaid : Prop := Claim7.holds Tryz.pinned (.plain (OpenSpec.ofChange fnExactSharesOkSpec)) fnExactSharesOkCard

/-- THE TIED CARD OF 'laws.FnExactShares'. -/
def fnExactSharesCard : Claim7 := { stood := { row := fnExactSharesRow, standIns := [], harness := (true, "8a5455408aacda78a24516ae30c81dc0d7ca21a431a2b66897ea8f40578782b3"), looks := true }, kinds := [], alts := [], laidByText := true, laidKinds := [.sentinel], laidTests := true, laidLooks := .later }
def FnExactSharesCardSaid : Prop := Claim7.holds Tryz.pinned (.plain (OpenSpec.ofChange fnExactSharesSpec)) fnExactSharesCard

/-- THE TIED CARD OF 'laws.FnExactSharesEven'. -/
def fnExactSharesEvenCard : Claim7 := { stood := { row := fnExactSharesEvenRow, standIns := [], harness := (true, "8a5455408aacda78a24516ae30c81dc0d7ca21a431a2b66897ea8f40578782b3"), looks := true }, kinds := [], alts := [], laidByText := true, laidKinds := [.sentinel], laidTests := true, laidLooks := .later }
def FnExactSharesEvenCardSaid : Prop := Claim7.holds Tryz.pinned (.plain (OpenSpec.ofChange fnExactSharesEvenSpec)) fnExactSharesEvenCard

/-- THE TIED CARD OF 'laws.FnExactShareMoney'. -/
def fnExactShareMoneyCard : Claim7 := { stood := { row := fnExactShareMoneyRow, standIns := [], harness := (true, "8a5455408aacda78a24516ae30c81dc0d7ca21a431a2b66897ea8f40578782b3"), looks := true }, kinds := [], alts := [], laidByText := true, laidKinds := [.sentinel, .data], laidTests := true, laidLooks := .later }
def FnExactShareMoneyCardSaid : Prop := Claim7.holds Tryz.pinned (.plain (OpenSpec.ofChange fnExactShareMoneySpec)) fnExactShareMoneyCard

/-- THE SECOND FORM's CARD OF 'laws.FnExactSharesOk'. -/
def fnExactSharesOkUptoCard : Claim7 := { stood := { row := fnExactSharesOkUptoRow, standIns := [], harness := (true, "8a5455408aacda78a24516ae30c81dc0d7ca21a431a2b66897ea8f40578782b3"), looks := true }, kinds := [], alts := [], laidByText := true, laidKinds := [.sentinel], laidTests := true, laidLooks := .later }
def FnExactSharesOkUptoCardSaid : Prop := Claim7.holds Tryz.pinned (.plain (OpenSpec.upto fnExactSharesOkSpec)) fnExactSharesOkUptoCard

/-- THE SECOND FORM's CARD OF 'laws.FnExactShares'. -/
def fnExactSharesUptoCard : Claim7 := { stood := { row := fnExactSharesUptoRow, standIns := [], harness := (true, "8a5455408aacda78a24516ae30c81dc0d7ca21a431a2b66897ea8f40578782b3"), looks := true }, kinds := [], alts := [], laidByText := true, laidKinds := [.sentinel], laidTests := true, laidLooks := .later }
def FnExactSharesUptoCardSaid : Prop := Claim7.holds Tryz.pinned (.plain (OpenSpec.upto fnExactSharesSpec)) fnExactSharesUptoCard

/-- THE SECOND FORM's CARD OF 'laws.FnExactSharesEven'. -/
def fnExactSharesEvenUptoCard : Claim7 := { stood := { row := fnExactSharesEvenUptoRow, standIns := [], harness := (true, "8a5455408aacda78a24516ae30c81dc0d7ca21a431a2b66897ea8f40578782b3"), looks := true }, kinds := [], alts := [], laidByText := true, laidKinds := [.sentinel], laidTests := true, laidLooks := .later }
def FnExactSharesEvenUptoCardSaid : Prop := Claim7.holds Tryz.pinned (.plain (OpenSpec.upto fnExactSharesEvenSpec)) fnExactSharesEvenUptoCard

/-- THE SECOND FORM's CARD OF 'laws.FnExactShareMoney'. -/
def fnExactShareMoneyUptoCard : Claim7 := { stood := { row := fnExactShareMoneyUptoRow, standIns := [], harness := (true, "8a5455408aacda78a24516ae30c81dc0d7ca21a431a2b66897ea8f40578782b3"), looks := true }, kinds := [], alts := [], laidByText := true, laidKinds := [.sentinel, .data], laidTests := true, laidLooks := .later }
def FnExactShareMoneyUptoCardSaid : Prop := Claim7.holds Tryz.pinned (.plain (OpenSpec.upto fnExactShareMoneySpec)) fnExactShareMoneyUptoCard
end Rows
end Go.Proofs.YtofehcpapdlcnabGreatDoor
