/-
  DERIVED. GIVEN WITH THE SEED: THE CARDS: each row of YtlbllcjkefndjaaDoorRows.lean that lists a variable, with what it lists TIED to the program's text (the seventh form; the later family's looks); each row that meets fmt, with fmt's text TOLD by the authors' own Lean function (tested against real Go, not proved from fmt's source: count such statements apart). THE CARD IS WHAT COUNTS. Prove the row's statement (the work); the ties are given (YtlbllcjkefndjaaDoorTie.lean); close each card by the builder's one call (the guide's Derived/Test/ToyasCard.lean, 'card_holds'). Laid BY PROGRAM, IN A SANDBOX (cutbox-door.mjs). By AI agents, Wed Nov 11 2026. No macro, syntax, notation, axiom, sorry.
-/
import Derived.Test.YtlbllcjkefndjaaDoorRows
import GoSem.ClaimSeven
namespace Go.Proofs.YtlbllcjkefndjaaDoor
namespace Rows

/-- THE TIED CARD OF 'laws.FnExactNatDigits'. -/
def fnExactNatDigitsCard : Claim7 := { stood := { row := fnExactNatDigitsRow, standIns := [], harness := (true, "df2bdbb697b53644212b7f7c6d3d121615ec1e9917ed61827690a73afb4511e3"), looks := false }, kinds := [], alts := [], laidByText := true, laidKinds := [.data, .data, .data], laidTests := true, laidLooks := .later }
def FnExactNatDigitsCardSaid : Prop := Claim7.holds Tryd.pinned (.plain (OpenSpec.ofChange fnExactNatDigitsSpec)) fnExactNatDigitsCard

/-- THE TIED CARD OF 'laws.FnExactNatText'. -/
def fnExactNatTextCard : Claim7 := { stood := { row := fnExactNatTextRow, standIns := [], harness := (true, "df2bdbb697b53644212b7f7c6d3d121615ec1e9917ed61827690a73afb4511e3"), looks := false }, kinds := [], alts := [], laidByText := true, laidKinds := [.data, .data, .data], laidTests := true, laidLooks := .later }
def FnExactNatTextCardSaid : Prop := Claim7.holds Tryd.pinned (.plain (OpenSpec.ofChange fnExactNatTextSpec)) fnExactNatTextCard

/-- THE TIED CARD OF 'laws.FnExactTextNat'. -/
def fnExactTextNatCard : Claim7 := { stood := { row := fnExactTextNatRow, standIns := [], harness := (true, "df2bdbb697b53644212b7f7c6d3d121615ec1e9917ed61827690a73afb4511e3"), looks := false }, kinds := [], alts := [], laidByText := true, laidKinds := [.data, .data, .data], laidTests := true, laidLooks := .later }
def FnExactTextNatCardSaid : Prop := Claim7.holds Tryd.pinned (.plain (OpenSpec.ofChange fnExactTextNatSpec)) fnExactTextNatCard

/-- THE SECOND FORM's CARD OF 'laws.FnExactNatDigits'. -/
def fnExactNatDigitsUptoCard : Claim7 := { stood := { row := fnExactNatDigitsUptoRow, standIns := [], harness := (true, "df2bdbb697b53644212b7f7c6d3d121615ec1e9917ed61827690a73afb4511e3"), looks := false }, kinds := [], alts := [], laidByText := true, laidKinds := [.data, .data, .data], laidTests := true, laidLooks := .later }
def FnExactNatDigitsUptoCardSaid : Prop := Claim7.holds Tryd.pinned (.plain (OpenSpec.upto fnExactNatDigitsSpec)) fnExactNatDigitsUptoCard

/-- THE SECOND FORM's CARD OF 'laws.FnExactNatText'. -/
def fnExactNatTextUptoCard : Claim7 := { stood := { row := fnExactNatTextUptoRow, standIns := [], harness := (true, "df2bdbb697b53644212b7f7c6d3d121615ec1e9917ed61827690a73afb4511e3"), looks := false }, kinds := [], alts := [], laidByText := true, laidKinds := [.data, .data, .data], laidTests := true, laidLooks := .later }
def FnExactNatTextUptoCardSaid : Prop := Claim7.holds Tryd.pinned (.plain (OpenSpec.upto fnExactNatTextSpec)) fnExactNatTextUptoCard

/-- THE SECOND FORM's CARD OF 'laws.FnExactTextNat'. -/
def fnExactTextNatUptoCard : Claim7 := { stood := { row := fnExactTextNatUptoRow, standIns := [], harness := (true, "df2bdbb697b53644212b7f7c6d3d121615ec1e9917ed61827690a73afb4511e3"), looks := false }, kinds := [], alts := [], laidByText := true, laidKinds := [.data, .data, .data], laidTests := true, laidLooks := .later }
def FnExactTextNatUptoCardSaid : Prop := Claim7.holds Tryd.pinned (.plain (OpenSpec.upto fnExactTextNatSpec)) fnExactTextNatUptoCard
end Rows
end Go.Proofs.YtlbllcjkefndjaaDoor
