/-
  DERIVED. GIVEN WITH THE SEED: THE CARDS: each row of YtcenmdiblbooeaaGreatDoorRows.lean that lists a variable, with what it lists TIED to the program's text (the seventh form; the later family's looks); each row that meets fmt, with fmt's text TOLD by the authors' own Lean function (tested against real Go, not proved from fmt's source: count such statements apart). THE CARD IS WHAT COUNTS. Prove the row's statement (the work); the ties are given (YtcenmdiblbooeaaGreatDoorTie.lean); close each card by the builder's one call (the guide's Derived/Test/ToyasCard.lean, 'card_holds'). Laid BY PROGRAM, IN A SANDBOX (cutbox-door.mjs). By AI agents, Wed Nov 11 2026. No macro, syntax, notation, axiom, sorry.
-/
import Derived.Test.YtcenmdiblbooeaaGreatDoorRows
import GoSem.ClaimSeven
namespace Go.Proofs.YtcenmdiblbooeaaGreatDoor
namespace Rows

/-- THE TIED CARD OF 'laws.FnMoney'. -/
def fnMoneyCard : Claim7 := { stood := { row := fnMoneyRow, standIns := [], harness := (true, "eb7c2ccb5390c280de3da74302b3e0eb87821381bb431f3d1e81e206522195bc"), looks := true }, kinds := [], alts := [], laidByText := true, laidKinds := [.data, .data, .data, .data, .data, .pinned], laidTests := true, laidLooks := .later }
def FnMoneyCardSaid : Prop := Claim7.holds Tryz.pinned (.plain (OpenSpec.ofChange fnMoneySpec)) fnMoneyCard

/-- THE TIED CARD OF 'laws.FnExactTextMoney'. -/
def fnExactTextMoneyCard : Claim7 := { stood := { row := fnExactTextMoneyRow, standIns := [], harness := (true, "eb7c2ccb5390c280de3da74302b3e0eb87821381bb431f3d1e81e206522195bc"), looks := true }, kinds := [], alts := [], laidByText := true, laidKinds := [.data, .data, .data, .data, .data, .pinned], laidTests := true, laidLooks := .later }
def FnExactTextMoneyCardSaid : Prop := Claim7.holds Tryz.pinned (.plain (OpenSpec.ofChange fnExactTextMoneySpec)) fnExactTextMoneyCard

/-- THE TIED CARD OF 'laws.FnExactRatMoney'. -/
def fnExactRatMoneyCard : Claim7 := { stood := { row := fnExactRatMoneyRow, standIns := [], harness := (true, "eb7c2ccb5390c280de3da74302b3e0eb87821381bb431f3d1e81e206522195bc"), looks := true }, kinds := [], alts := [], laidByText := true, laidKinds := [.sentinel, .data], laidTests := true, laidLooks := .later }
def FnExactRatMoneyCardSaid : Prop := Claim7.holds Tryz.pinned (.plain (OpenSpec.ofChange fnExactRatMoneySpec)) fnExactRatMoneyCard

/-- THE SECOND FORM's CARD OF 'laws.FnMoney'. -/
def fnMoneyUptoCard : Claim7 := { stood := { row := fnMoneyUptoRow, standIns := [], harness := (true, "eb7c2ccb5390c280de3da74302b3e0eb87821381bb431f3d1e81e206522195bc"), looks := true }, kinds := [], alts := [], laidByText := true, laidKinds := [.data, .data, .data, .data, .data, .pinned], laidTests := true, laidLooks := .later }
def FnMoneyUptoCardSaid : Prop := Claim7.holds Tryz.pinned (.plain (OpenSpec.upto fnMoneySpec)) fnMoneyUptoCard

/-- THE SECOND FORM's CARD OF 'laws.FnExactTextMoney'. -/
def fnExactTextMoneyUptoCard : Claim7 := { stood := { row := fnExactTextMoneyUptoRow, standIns := [], harness := (true, "eb7c2ccb5390c280de3da74302b3e0eb87821381bb431f3d1e81e206522195bc"), looks := true }, kinds := [], alts := [], laidByText := true, laidKinds := [.data, .data, .data, .data, .data, .pinned], laidTests := true, laidLooks := .later }
def FnExactTextMoneyUptoCardSaid : Prop := Claim7.holds Tryz.pinned (.plain (OpenSpec.upto fnExactTextMoneySpec)) fnExactTextMoneyUptoCard

/-- THE SECOND FORM's CARD OF 'laws.FnExactRatMoney'. -/
def fnExactRatMoneyUptoCard : Claim7 := { stood := { row := fnExactRatMoneyUptoRow, standIns := [], harness := (true, "eb7c2ccb5390c280de3da74302b3e0eb87821381bb431f3d1e81e206522195bc"), looks := true }, kinds := [], alts := [], laidByText := true, laidKinds := [.sentinel, .data], laidTests := true, laidLooks := .later }
def FnExactRatMoneyUptoCardSaid : Prop := Claim7.holds Tryz.pinned (.plain (OpenSpec.upto fnExactRatMoneySpec)) fnExactRatMoneyUptoCard
end Rows
end Go.Proofs.YtcenmdiblbooeaaGreatDoor
