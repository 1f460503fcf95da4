/-
  DERIVED. GIVEN WITH THE SEED: THE CARDS: each row of YtipbdpdmefcofaaDoorRows.lean that lists a variable, with what it lists TIED to the program's text (the seventh form; the later family's looks); each row that meets fmt, with fmt's text TOLD by the authors' own Lean function (tested against real Go, not proved from fmt's source: count such statements apart). THE CARD IS WHAT COUNTS. Prove the row's statement (the work); the ties are given (YtipbdpdmefcofaaDoorTie.lean); close each card by the builder's one call (the guide's Derived/Test/ToyasCard.lean, 'card_holds'). Laid BY PROGRAM, IN A SANDBOX (cutbox-door.mjs). By AI agents, Wed Nov 11 2026. No macro, syntax, notation, axiom, sorry.
-/
import Derived.Test.YtipbdpdmefcofaaDoorRows
import GoSem.ClaimSeven
namespace Go.Proofs.YtipbdpdmefcofaaDoor
namespace Rows

/-- THE TIED CARD OF 'laws.FnExactFairShare'. -/
def fnExactFairShareCard : Claim7 := { stood := { row := fnExactFairShareRow, standIns := [], harness := (true, "cd1c6153a42372714df56668b43cf7436438382e8a93d35b4f5ee481c69b2741"), looks := true }, kinds := [], alts := [], laidByText := true, laidKinds := [.sentinel], laidTests := true, laidLooks := .later }
def FnExactFairShareCardSaid : Prop := Claim7.holds Tryd.pinned (.plain (OpenSpec.ofChange fnExactFairShareSpec)) fnExactFairShareCard

/-- THE SECOND FORM's CARD OF 'laws.FnExactFairShare'. -/
def fnExactFairShareUptoCard : Claim7 := { stood := { row := fnExactFairShareUptoRow, standIns := [], harness := (true, "cd1c6153a42372714df56668b43cf7436438382e8a93d35b4f5ee481c69b2741"), looks := true }, kinds := [], alts := [], laidByText := true, laidKinds := [.sentinel], laidTests := true, laidLooks := .later }
def FnExactFairShareUptoCardSaid : Prop := Claim7.holds Tryd.pinned (.plain (OpenSpec.upto fnExactFairShareSpec)) fnExactFairShareUptoCard
end Rows
end Go.Proofs.YtipbdpdmefcofaaDoor
