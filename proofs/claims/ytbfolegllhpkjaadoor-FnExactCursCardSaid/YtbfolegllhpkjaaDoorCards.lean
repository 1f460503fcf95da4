/-
  DERIVED. GIVEN WITH THE SEED: THE CARDS: each row of YtbfolegllhpkjaaDoorRows.lean that lists a variable, with what it lists TIED to the program's text (the seventh form; the later family's looks); each row that meets fmt, with fmt's text TOLD by the authors' own Lean function (tested against real Go, not proved from fmt's source: count such statements apart). THE CARD IS WHAT COUNTS. Prove the row's statement (the work); the ties are given (YtbfolegllhpkjaaDoorTie.lean); close each card by the builder's one call (the guide's Derived/Test/ToyasCard.lean, 'card_holds'). Laid BY PROGRAM, IN A SANDBOX (cutbox-door.mjs). By AI agents, Wed Nov 11 2026. No macro, syntax, notation, axiom, sorry.
-/
import Derived.Test.YtbfolegllhpkjaaDoorRows
import GoSem.ClaimSeven
namespace Go.Proofs.YtbfolegllhpkjaaDoor
namespace Rows

/-- THE TIED CARD OF 'laws.FnExactCurOf'. -/
def fnExactCurOfCard : Claim7 := { stood := { row := fnExactCurOfRow, standIns := [], harness := (true, "0de8942d26a63aa3fd5447a9db9d4980ba81360b36be1729b81ab4fd08a1ca67"), looks := false }, kinds := [], alts := [], laidByText := true, laidKinds := [.data], laidTests := true, laidLooks := .later }
def FnExactCurOfCardSaid : Prop := Claim7.holds Tryd.pinned (.plain (OpenSpec.ofChange fnExactCurOfSpec)) fnExactCurOfCard

/-- THE TIED CARD OF 'laws.FnExactCurs'. -/
def fnExactCursCard : Claim7 := { stood := { row := fnExactCursRow, standIns := [], harness := (true, "0de8942d26a63aa3fd5447a9db9d4980ba81360b36be1729b81ab4fd08a1ca67"), looks := false }, kinds := [], alts := [], laidByText := true, laidKinds := [.data], laidTests := true, laidLooks := .later }
def FnExactCursCardSaid : Prop := Claim7.holds Tryd.pinned (.plain (OpenSpec.ofChange fnExactCursSpec)) fnExactCursCard

/-- THE SECOND FORM's CARD OF 'laws.FnExactCurOf'. -/
def fnExactCurOfUptoCard : Claim7 := { stood := { row := fnExactCurOfUptoRow, standIns := [], harness := (true, "0de8942d26a63aa3fd5447a9db9d4980ba81360b36be1729b81ab4fd08a1ca67"), looks := false }, kinds := [], alts := [], laidByText := true, laidKinds := [.data], laidTests := true, laidLooks := .later }
def FnExactCurOfUptoCardSaid : Prop := Claim7.holds Tryd.pinned (.plain (OpenSpec.upto fnExactCurOfSpec)) fnExactCurOfUptoCard

/-- THE SECOND FORM's CARD OF 'laws.FnExactCurs'. -/
def fnExactCursUptoCard : Claim7 := { stood := { row := fnExactCursUptoRow, standIns := [], harness := (true, "0de8942d26a63aa3fd5447a9db9d4980ba81360b36be1729b81ab4fd08a1ca67"), looks := false }, kinds := [], alts := [], laidByText := true, laidKinds := [.data], laidTests := true, laidLooks := .later }
def FnExactCursUptoCardSaid : Prop := Claim7.holds Tryd.pinned (.plain (OpenSpec.upto fnExactCursSpec)) fnExactCursUptoCard
end Rows
end Go.Proofs.YtbfolegllhpkjaaDoor
