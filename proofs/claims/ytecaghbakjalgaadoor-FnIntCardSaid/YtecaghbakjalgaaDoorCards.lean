/-
  DERIVED. GIVEN WITH THE SEED: THE CARDS: each row of YtecaghbakjalgaaDoorRows.lean that lists a variable, with what it lists TIED to the program's text (the seventh form; the later family's looks); each row that meets fmt, with fmt's text TOLD by the authors' own Lean function (tested against real Go, not proved from fmt's source: count such statements apart). THE CARD IS WHAT COUNTS. Prove the row's statement (the work); the ties are given (YtecaghbakjalgaaDoorTie.lean); close each card by the builder's one call (the guide's Derived/Test/ToyasCard.lean, 'card_holds'). Laid BY PROGRAM, IN A SANDBOX (cutbox-door.mjs). By AI agents, Wed Nov 11 2026. No macro, syntax, notation, axiom, sorry.
-/
import Derived.Test.YtecaghbakjalgaaDoorRows
import GoSem.ClaimSeven
namespace Go.Proofs.YtecaghbakjalgaaDoor
namespace Rows

/-- THE TIED CARD OF 'laws.FnInt'. -/
def fnIntCard : Claim7 := { stood := { row := fnIntRow, standIns := [], harness := (true, "7ddc604f8333d75d86b3a0d884af802502edfdb808dd40238bdf6c7fe09b990d"), looks := false }, kinds := [], alts := [], laidByText := true, laidKinds := [.data, .data, .data], laidTests := true, laidLooks := .later }
def FnIntCardSaid : Prop := Claim7.holds Tryd.pinned (.plain (OpenSpec.ofChange fnIntSpec)) fnIntCard

/-- THE TIED CARD OF 'laws.FnExactIntStr'. -/
def fnExactIntStrCard : Claim7 := { stood := { row := fnExactIntStrRow, standIns := [], harness := (true, "7ddc604f8333d75d86b3a0d884af802502edfdb808dd40238bdf6c7fe09b990d"), looks := false }, kinds := [], alts := [], laidByText := true, laidKinds := [.data, .data, .data], laidTests := true, laidLooks := .later }
def FnExactIntStrCardSaid : Prop := Claim7.holds Tryd.pinned (.plain (OpenSpec.ofChange fnExactIntStrSpec)) fnExactIntStrCard

/-- THE TIED CARD OF 'laws.FnExactStrInt'. -/
def fnExactStrIntCard : Claim7 := { stood := { row := fnExactStrIntRow, standIns := [], harness := (true, "7ddc604f8333d75d86b3a0d884af802502edfdb808dd40238bdf6c7fe09b990d"), looks := false }, kinds := [], alts := [], laidByText := true, laidKinds := [.data, .data, .data], laidTests := true, laidLooks := .later }
def FnExactStrIntCardSaid : Prop := Claim7.holds Tryd.pinned (.plain (OpenSpec.ofChange fnExactStrIntSpec)) fnExactStrIntCard

/-- THE SECOND FORM's CARD OF 'laws.FnInt'. -/
def fnIntUptoCard : Claim7 := { stood := { row := fnIntUptoRow, standIns := [], harness := (true, "7ddc604f8333d75d86b3a0d884af802502edfdb808dd40238bdf6c7fe09b990d"), looks := false }, kinds := [], alts := [], laidByText := true, laidKinds := [.data, .data, .data], laidTests := true, laidLooks := .later }
def FnIntUptoCardSaid : Prop := Claim7.holds Tryd.pinned (.plain (OpenSpec.upto fnIntSpec)) fnIntUptoCard

/-- THE SECOND FORM's CARD OF 'laws.FnExactIntStr'. -/
def fnExactIntStrUptoCard : Claim7 := { stood := { row := fnExactIntStrUptoRow, standIns := [], harness := (true, "7ddc604f8333d75d86b3a0d884af802502edfdb808dd40238bdf6c7fe09b990d"), looks := false }, kinds := [], alts := [], laidByText := true, laidKinds := [.data, .data, .data], laidTests := true, laidLooks := .later }
def FnExactIntStrUptoCardSaid : Prop := Claim7.holds Tryd.pinned (.plain (OpenSpec.upto fnExactIntStrSpec)) fnExactIntStrUptoCard

/-- THE SECOND FORM's CARD OF 'laws.FnExactStrInt'. -/
def fnExactStrIntUptoCard : Claim7 := { stood := { row := fnExactStrIntUptoRow, standIns := [], harness := (true, "7ddc604f8333d75d86b3a0d884af802502edfdb808dd40238bdf6c7fe09b990d"), looks := false }, kinds := [], alts := [], laidByText := true, laidKinds := [.data, .data, .data], laidTests := true, laidLooks := .later }
def FnExactStrIntUptoCardSaid : Prop := Claim7.holds Tryd.pinned (.plain (OpenSpec.upto fnExactStrIntSpec)) fnExactStrIntUptoCard
end Rows
end Go.Proofs.YtecaghbakjalgaaDoor
