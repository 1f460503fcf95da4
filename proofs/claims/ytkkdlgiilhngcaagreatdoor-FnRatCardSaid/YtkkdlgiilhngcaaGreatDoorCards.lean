/-
  DERIVED. GIVEN WITH THE SEED: THE CARDS: each row of YtkkdlgiilhngcaaGreatDoorRows.lean that lists a variable, with what it lists TIED to the program's text (the seventh form; the later family's looks); each row that meets fmt, with fmt's text TOLD by the authors' own Lean function (tested against real Go, not proved from fmt's source: count such statements apart). THE CARD IS WHAT COUNTS. Prove the row's statement (the work); the ties are given (YtkkdlgiilhngcaaGreatDoorTie.lean); close each card by the builder's one call (the guide's Derived/Test/ToyasCard.lean, 'card_holds'). Laid BY PROGRAM, IN A SANDBOX (cutbox-door.mjs). By AI agents, Wed Nov 11 2026. No macro, syntax, notation, axiom, sorry.
-/
import Derived.Test.YtkkdlgiilhngcaaGreatDoorRows
import GoSem.ClaimSeven
namespace Go.Proofs.YtkkdlgiilhngcaaGreatDoor
namespace Rows

/-- THE TIED CARD OF 'laws.FnRat'. -/
def fnRatCard : Claim7 := { stood := { row := fnRatRow, standIns := [], harness := (true, "156b59a70d2dbe6f5138c83354a4aa51d03c02d10cac4f90ae9ba17d3a577d7f"), looks := true }, kinds := [], alts := [], laidByText := true, laidKinds := [.data, .data, .data, .sentinel], laidTests := true, laidLooks := .later }
def FnRatCardSaid : Prop := Claim7.holds Tryz.pinned (.plain (OpenSpec.ofChange fnRatSpec)) fnRatCard

/-- THE TIED CARD OF 'laws.FnExactRatSub'. -/
def fnExactRatSubCard : Claim7 := { stood := { row := fnExactRatSubRow, standIns := [], harness := (true, "156b59a70d2dbe6f5138c83354a4aa51d03c02d10cac4f90ae9ba17d3a577d7f"), looks := true }, kinds := [], alts := [], laidByText := true, laidKinds := [.sentinel], laidTests := true, laidLooks := .later }
def FnExactRatSubCardSaid : Prop := Claim7.holds Tryz.pinned (.plain (OpenSpec.ofChange fnExactRatSubSpec)) fnExactRatSubCard

/-- THE TIED CARD OF 'laws.FnExactRatText'. -/
def fnExactRatTextCard : Claim7 := { stood := { row := fnExactRatTextRow, standIns := [], harness := (true, "156b59a70d2dbe6f5138c83354a4aa51d03c02d10cac4f90ae9ba17d3a577d7f"), looks := true }, kinds := [], alts := [], laidByText := true, laidKinds := [.data, .data, .data, .sentinel], laidTests := true, laidLooks := .later }
def FnExactRatTextCardSaid : Prop := Claim7.holds Tryz.pinned (.plain (OpenSpec.ofChange fnExactRatTextSpec)) fnExactRatTextCard

/-- THE TIED CARD OF 'laws.FnExactTextRat'. -/
def fnExactTextRatCard : Claim7 := { stood := { row := fnExactTextRatRow, standIns := [], harness := (true, "156b59a70d2dbe6f5138c83354a4aa51d03c02d10cac4f90ae9ba17d3a577d7f"), looks := true }, kinds := [], alts := [], laidByText := true, laidKinds := [.data, .data, .data, .sentinel], laidTests := true, laidLooks := .later }
def FnExactTextRatCardSaid : Prop := Claim7.holds Tryz.pinned (.plain (OpenSpec.ofChange fnExactTextRatSpec)) fnExactTextRatCard

/-- THE SECOND FORM's CARD OF 'laws.FnRat'. -/
def fnRatUptoCard : Claim7 := { stood := { row := fnRatUptoRow, standIns := [], harness := (true, "156b59a70d2dbe6f5138c83354a4aa51d03c02d10cac4f90ae9ba17d3a577d7f"), looks := true }, kinds := [], alts := [], laidByText := true, laidKinds := [.data, .data, .data, .sentinel], laidTests := true, laidLooks := .later }
def FnRatUptoCardSaid : Prop := Claim7.holds Tryz.pinned (.plain (OpenSpec.upto fnRatSpec)) fnRatUptoCard

/-- THE SECOND FORM's CARD OF 'laws.FnExactRatSub'. -/
def fnExactRatSubUptoCard : Claim7 := { stood := { row := fnExactRatSubUptoRow, standIns := [], harness := (true, "156b59a70d2dbe6f5138c83354a4aa51d03c02d10cac4f90ae9ba17d3a577d7f"), looks := true }, kinds := [], alts := [], laidByText := true, laidKinds := [.sentinel], laidTests := true, laidLooks := .later }
def FnExactRatSubUptoCardSaid : Prop := Claim7.holds Tryz.pinned (.plain (OpenSpec.upto fnExactRatSubSpec)) fnExactRatSubUptoCard

/-- THE SECOND FORM's CARD OF 'laws.FnExactRatText'. -/
def fnExactRatTextUptoCard : Claim7 := { stood := { row := fnExactRatTextUptoRow, standIns := [], harness := (true, "156b59a70d2dbe6f5138c83354a4aa51d03c02d10cac4f90ae9ba17d3a577d7f"), looks := true }, kinds := [], alts := [], laidByText := true, laidKinds := [.data, .data, .data, .sentinel], laidTests := true, laidLooks := .later }
def FnExactRatTextUptoCardSaid : Prop := Claim7.holds Tryz.pinned (.plain (OpenSpec.upto fnExactRatTextSpec)) fnExactRatTextUptoCard

/-- THE SECOND FORM's CARD OF 'laws.FnExactTextRat'. -/
def fnExactTextRatUptoCard : Claim7 := { stood := { row := fnExactTextRatUptoRow, standIns := [], harness := (true, "156b59a70d2dbe6f5138c83354a4aa51d03c02d10cac4f90ae9ba17d3a577d7f"), looks := true }, kinds := [], alts := [], laidByText := true, laidKinds := [.data, .data, .data, .sentinel], laidTests := true, laidLooks := .later }
def FnExactTextRatUptoCardSaid : Prop := Claim7.holds Tryz.pinned (.plain (OpenSpec.upto fnExactTextRatSpec)) fnExactTextRatUptoCard
end Rows
end Go.Proofs.YtkkdlgiilhngcaaGreatDoor
