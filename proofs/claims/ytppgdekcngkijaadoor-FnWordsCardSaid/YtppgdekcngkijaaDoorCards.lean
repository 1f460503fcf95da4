/-
  DERIVED. GIVEN WITH THE SEED: THE CARDS: each row of YtppgdekcngkijaaDoorRows.lean that lists a variable, with what it lists TIED to the program's text (the seventh form; the later family's looks); each row that meets fmt, with fmt's text TOLD by the authors' own Lean function (tested against real Go, not proved from fmt's source: count such statements apart). THE CARD IS WHAT COUNTS. Prove the row's statement (the work); the ties are given (YtppgdekcngkijaaDoorTie.lean); close each card by the builder's one call (the guide's Derived/Test/ToyasCard.lean, 'card_holds'). Laid BY PROGRAM, IN A SANDBOX (cutbox-door.mjs). By AI agents, Wed Nov 11 2026. No macro, syntax, notation, axiom, sorry.
-/
import Derived.Test.YtppgdekcngkijaaDoorRows
import GoSem.ClaimSeven
namespace Go.Proofs.YtppgdekcngkijaaDoor
namespace Rows

/-- THE TIED CARD OF 'laws.FnWords'. -/
def fnWordsCard : Claim7 := { stood := { row := fnWordsRow, standIns := [], harness := (true, "0c97b736658d77dc1ddf5daf75fad26111f4e03c0356cc8dd1689a66cff6fe89"), looks := false }, kinds := [], alts := [], laidByText := true, laidKinds := [.data, .data, .data], laidTests := true, laidLooks := .later }
def FnWordsCardSaid : Prop := Claim7.holds Tryd.pinned (.plain (OpenSpec.ofChange fnWordsSpec)) fnWordsCard

/-- THE TIED CARD OF 'laws.FnExactIntText'. -/
def fnExactIntTextCard : Claim7 := { stood := { row := fnExactIntTextRow, standIns := [], harness := (true, "0c97b736658d77dc1ddf5daf75fad26111f4e03c0356cc8dd1689a66cff6fe89"), looks := false }, kinds := [], alts := [], laidByText := true, laidKinds := [.data, .data, .data], laidTests := true, laidLooks := .later }
def FnExactIntTextCardSaid : Prop := Claim7.holds Tryd.pinned (.plain (OpenSpec.ofChange fnExactIntTextSpec)) fnExactIntTextCard

/-- THE TIED CARD OF 'laws.FnExactTextInt'. -/
def fnExactTextIntCard : Claim7 := { stood := { row := fnExactTextIntRow, standIns := [], harness := (true, "0c97b736658d77dc1ddf5daf75fad26111f4e03c0356cc8dd1689a66cff6fe89"), looks := false }, kinds := [], alts := [], laidByText := true, laidKinds := [.data, .data, .data], laidTests := true, laidLooks := .later }
def FnExactTextIntCardSaid : Prop := Claim7.holds Tryd.pinned (.plain (OpenSpec.ofChange fnExactTextIntSpec)) fnExactTextIntCard

/-- THE SECOND FORM's CARD OF 'laws.FnWords'. -/
def fnWordsUptoCard : Claim7 := { stood := { row := fnWordsUptoRow, standIns := [], harness := (true, "0c97b736658d77dc1ddf5daf75fad26111f4e03c0356cc8dd1689a66cff6fe89"), looks := false }, kinds := [], alts := [], laidByText := true, laidKinds := [.data, .data, .data], laidTests := true, laidLooks := .later }
def FnWordsUptoCardSaid : Prop := Claim7.holds Tryd.pinned (.plain (OpenSpec.upto fnWordsSpec)) fnWordsUptoCard

/-- THE SECOND FORM's CARD OF 'laws.FnExactIntText'. -/
def fnExactIntTextUptoCard : Claim7 := { stood := { row := fnExactIntTextUptoRow, standIns := [], harness := (true, "0c97b736658d77dc1ddf5daf75fad26111f4e03c0356cc8dd1689a66cff6fe89"), looks := false }, kinds := [], alts := [], laidByText := true, laidKinds := [.data, .data, .data], laidTests := true, laidLooks := .later }
def FnExactIntTextUptoCardSaid : Prop := Claim7.holds Tryd.pinned (.plain (OpenSpec.upto fnExactIntTextSpec)) fnExactIntTextUptoCard

/-- THE SECOND FORM's CARD OF 'laws.FnExactTextInt'. -/
def fnExactTextIntUptoCard : Claim7 := { stood := { row := fnExactTextIntUptoRow, standIns := [], harness := (true, "0c97b736658d77dc1ddf5daf75fad26111f4e03c0356cc8dd1689a66cff6fe89"), looks := false }, kinds := [], alts := [], laidByText := true, laidKinds := [.data, .data, .data], laidTests := true, laidLooks := .later }
def FnExactTextIntUptoCardSaid : Prop := Claim7.holds Tryd.pinned (.plain (OpenSpec.upto fnExactTextIntSpec)) fnExactTextIntUptoCard
end Rows
end Go.Proofs.YtppgdekcngkijaaDoor
