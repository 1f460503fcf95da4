/-
  DERIVED. GIVEN WITH THE SEED: THE CARDS: each row of YtcenmdiblbooeaaDoorRows.lean that lists a variable, with what it lists TIED to the program's text (the seventh form; the later family's looks); each row that meets fmt, with fmt's text TOLD by the authors' own Lean function (tested against real Go, not proved from fmt's source: count such statements apart). THE CARD IS WHAT COUNTS. Prove the row's statement (the work); the ties are given (YtcenmdiblbooeaaDoorTie.lean); close each card by the builder's one call (the guide's Derived/Test/ToyasCard.lean, 'card_holds'). Laid BY PROGRAM, IN A SANDBOX (cutbox-door.mjs). By AI agents, Wed Nov 11 2026. No macro, syntax, notation, axiom, sorry.
-/
import Derived.Test.YtcenmdiblbooeaaDoorRows
import GoSem.ClaimSeven
namespace Go.Proofs.YtcenmdiblbooeaaDoor
namespace Rows

/-- THE TIED CARD OF 'laws.FnExactCurKnown'. -/
def fnExactCurKnownCard : Claim7 := { stood := { row := fnExactCurKnownRow, standIns := [], harness := (true, "7c01be425abec42bb8dd2fdf414ee262707eb39e6eeac540aa6915256596df30"), looks := true }, kinds := [], alts := [], laidByText := true, laidKinds := [.data], laidTests := true, laidLooks := .later }
def FnExactCurKnownCardSaid : Prop := Claim7.holds Tryd.pinned (.plain (OpenSpec.ofChange fnExactCurKnownSpec)) fnExactCurKnownCard

/-- THE TIED CARD OF 'laws.FnExactMoneyOk'. -/
def fnExactMoneyOkCard : Claim7 := { stood := { row := fnExactMoneyOkRow, standIns := [], harness := (true, "7c01be425abec42bb8dd2fdf414ee262707eb39e6eeac540aa6915256596df30"), looks := true }, kinds := [], alts := [], laidByText := true, laidKinds := [.data], laidTests := true, laidLooks := .later }
def FnExactMoneyOkCardSaid : Prop := Claim7.holds Tryd.pinned (.plain (OpenSpec.ofChange fnExactMoneyOkSpec)) fnExactMoneyOkCard

/-- THE TIED CARD OF 'laws.FnExactMoneyOf'. -/
def fnExactMoneyOfCard : Claim7 := { stood := { row := fnExactMoneyOfRow, standIns := [], harness := (true, "7c01be425abec42bb8dd2fdf414ee262707eb39e6eeac540aa6915256596df30"), looks := true }, kinds := [], alts := [], laidByText := true, laidKinds := [.data], laidTests := true, laidLooks := .later }
def FnExactMoneyOfCardSaid : Prop := Claim7.holds Tryd.pinned (.plain (OpenSpec.ofChange fnExactMoneyOfSpec)) fnExactMoneyOfCard

/-- THE TIED CARD OF 'laws.FnExactMoneyText'. -/
def fnExactMoneyTextCard : Claim7 := { stood := { row := fnExactMoneyTextRow, standIns := [], harness := (true, "7c01be425abec42bb8dd2fdf414ee262707eb39e6eeac540aa6915256596df30"), looks := true }, kinds := [], alts := [], laidByText := true, laidKinds := [.data, .data, .data, .data], laidTests := true, laidLooks := .later }
def FnExactMoneyTextCardSaid : Prop := Claim7.holds Tryd.pinned (.plain (OpenSpec.ofChange fnExactMoneyTextSpec)) fnExactMoneyTextCard

/-- THE TIED CARD OF 'laws.FnExactMoneyAdd'. -/
def fnExactMoneyAddCard : Claim7 := { stood := { row := fnExactMoneyAddRow, standIns := [], harness := (true, "7c01be425abec42bb8dd2fdf414ee262707eb39e6eeac540aa6915256596df30"), looks := true }, kinds := [], alts := [], laidByText := true, laidKinds := [.data], laidTests := true, laidLooks := .later }
def FnExactMoneyAddCardSaid : Prop := Claim7.holds Tryd.pinned (.plain (OpenSpec.ofChange fnExactMoneyAddSpec)) fnExactMoneyAddCard

/-- THE TIED CARD OF 'laws.FnExactMoneySub'. -/
def fnExactMoneySubCard : Claim7 := { stood := { row := fnExactMoneySubRow, standIns := [], harness := (true, "7c01be425abec42bb8dd2fdf414ee262707eb39e6eeac540aa6915256596df30"), looks := true }, kinds := [], alts := [], laidByText := true, laidKinds := [.data], laidTests := true, laidLooks := .later }
def FnExactMoneySubCardSaid : Prop := Claim7.holds Tryd.pinned (.plain (OpenSpec.ofChange fnExactMoneySubSpec)) fnExactMoneySubCard

/-- THE TIED CARD OF 'laws.FnExactMoneyNeg'. -/
def fnExactMoneyNegCard : Claim7 := { stood := { row := fnExactMoneyNegRow, standIns := [], harness := (true, "7c01be425abec42bb8dd2fdf414ee262707eb39e6eeac540aa6915256596df30"), looks := true }, kinds := [], alts := [], laidByText := true, laidKinds := [.data], laidTests := true, laidLooks := .later }
def FnExactMoneyNegCardSaid : Prop := Claim7.holds Tryd.pinned (.plain (OpenSpec.ofChange fnExactMoneyNegSpec)) fnExactMoneyNegCard

/-- THE TIED CARD OF 'laws.FnExactMoneyTimes'. -/
def fnExactMoneyTimesCard : Claim7 := { stood := { row := fnExactMoneyTimesRow, standIns := [], harness := (true, "7c01be425abec42bb8dd2fdf414ee262707eb39e6eeac540aa6915256596df30"), looks := true }, kinds := [], alts := [], laidByText := true, laidKinds := [.data], laidTests := true, laidLooks := .later }
def FnExactMoneyTimesCardSaid : Prop := Claim7.holds Tryd.pinned (.plain (OpenSpec.ofChange fnExactMoneyTimesSpec)) fnExactMoneyTimesCard

/-- THE TIED CARD OF 'laws.FnExactMoneyCmp'. -/
def fnExactMoneyCmpCard : Claim7 := { stood := { row := fnExactMoneyCmpRow, standIns := [], harness := (true, "7c01be425abec42bb8dd2fdf414ee262707eb39e6eeac540aa6915256596df30"), looks := true }, kinds := [], alts := [], laidByText := true, laidKinds := [.data], laidTests := true, laidLooks := .later }
def FnExactMoneyCmpCardSaid : Prop := Claim7.holds Tryd.pinned (.plain (OpenSpec.ofChange fnExactMoneyCmpSpec)) fnExactMoneyCmpCard

/-- THE TIED CARD OF 'laws.FnExactMoneyRat'. -/
def fnExactMoneyRatCard : Claim7 := { stood := { row := fnExactMoneyRatRow, standIns := [], harness := (true, "7c01be425abec42bb8dd2fdf414ee262707eb39e6eeac540aa6915256596df30"), looks := true }, kinds := [], alts := [], laidByText := true, laidKinds := [.sentinel, .data], laidTests := true, laidLooks := .later }
def FnExactMoneyRatCardSaid : Prop := Claim7.holds Tryd.pinned (.plain (OpenSpec.ofChange fnExactMoneyRatSpec)) fnExactMoneyRatCard

/-- THE TIED CARD OF 'laws.FnExactMoneySum'. -/
def fnExactMoneySumCard : Claim7 := { stood := { row := fnExactMoneySumRow, standIns := [], harness := (true, "7c01be425abec42bb8dd2fdf414ee262707eb39e6eeac540aa6915256596df30"), looks := true }, kinds := [], alts := [], laidByText := true, laidKinds := [.data], laidTests := true, laidLooks := .later }
def FnExactMoneySumCardSaid : Prop := Claim7.holds Tryd.pinned (.plain (OpenSpec.ofChange fnExactMoneySumSpec)) fnExactMoneySumCard

/-- THE SECOND FORM's CARD OF 'laws.FnExactCurKnown'. -/
def fnExactCurKnownUptoCard : Claim7 := { stood := { row := fnExactCurKnownUptoRow, standIns := [], harness := (true, "7c01be425abec42bb8dd2fdf414ee262707eb39e6eeac540aa6915256596df30"), looks := true }, kinds := [], alts := [], laidByText := true, laidKinds := [.data], laidTests := true, laidLooks := .later }
def FnExactCurKnownUptoCardSaid : Prop := Claim7.holds Tryd.pinned (.plain (OpenSpec.upto fnExactCurKnownSpec)) fnExactCurKnownUptoCard

/-- THE SECOND FORM's CARD OF 'laws.FnExactMoneyOk'. -/
def fnExactMoneyOkUptoCard : Claim7 := { stood := { row := fnExactMoneyOkUptoRow, standIns := [], harness := (true, "7c01be425abec42bb8dd2fdf414ee262707eb39e6eeac540aa6915256596df30"), looks := true }, kinds := [], alts := [], laidByText := true, laidKinds := [.data], laidTests := true, laidLooks := .later }
def FnExactMoneyOkUptoCardSaid : Prop := Claim7.holds Tryd.pinned (.plain (OpenSpec.upto fnExactMoneyOkSpec)) fnExactMoneyOkUptoCard

/-- THE SECOND FORM's CARD OF 'laws.FnExactMoneyOf'. -/
def fnExactMoneyOfUptoCard : Claim7 := { stood := { row := fnExactMoneyOfUptoRow, standIns := [], harness := (true, "7c01be425abec42bb8dd2fdf414ee262707eb39e6eeac540aa6915256596df30"), looks := true }, kinds := [], alts := [], laidByText := true, laidKinds := [.data], laidTests := true, laidLooks := .later }
def FnExactMoneyOfUptoCardSaid : Prop := Claim7.holds Tryd.pinned (.plain (OpenSpec.upto fnExactMoneyOfSpec)) fnExactMoneyOfUptoCard

/-- THE SECOND FORM's CARD OF 'laws.FnExactMoneyText'. -/
def fnExactMoneyTextUptoCard : Claim7 := { stood := { row := fnExactMoneyTextUptoRow, standIns := [], harness := (true, "7c01be425abec42bb8dd2fdf414ee262707eb39e6eeac540aa6915256596df30"), looks := true }, kinds := [], alts := [], laidByText := true, laidKinds := [.data, .data, .data, .data], laidTests := true, laidLooks := .later }
def FnExactMoneyTextUptoCardSaid : Prop := Claim7.holds Tryd.pinned (.plain (OpenSpec.upto fnExactMoneyTextSpec)) fnExactMoneyTextUptoCard

/-- THE SECOND FORM's CARD OF 'laws.FnExactMoneyAdd'. -/
def fnExactMoneyAddUptoCard : Claim7 := { stood := { row := fnExactMoneyAddUptoRow, standIns := [], harness := (true, "7c01be425abec42bb8dd2fdf414ee262707eb39e6eeac540aa6915256596df30"), looks := true }, kinds := [], alts := [], laidByText := true, laidKinds := [.data], laidTests := true, laidLooks := .later }
def FnExactMoneyAddUptoCardSaid : Prop := Claim7.holds Tryd.pinned (.plain (OpenSpec.upto fnExactMoneyAddSpec)) fnExactMoneyAddUptoCard

/-- THE SECOND FORM's CARD OF 'laws.FnExactMoneySub'. -/
def fnExactMoneySubUptoCard : Claim7 := { stood := { row := fnExactMoneySubUptoRow, standIns := [], harness := (true, "7c01be425abec42bb8dd2fdf414ee262707eb39e6eeac540aa6915256596df30"), looks := true }, kinds := [], alts := [], laidByText := true, laidKinds := [.data], laidTests := true, laidLooks := .later }
def FnExactMoneySubUptoCardSaid : Prop := Claim7.holds Tryd.pinned (.plain (OpenSpec.upto fnExactMoneySubSpec)) fnExactMoneySubUptoCard

/-- THE SECOND FORM's CARD OF 'laws.FnExactMoneyNeg'. -/
def fnExactMoneyNegUptoCard : Claim7 := { stood := { row := fnExactMoneyNegUptoRow, standIns := [], harness := (true, "7c01be425abec42bb8dd2fdf414ee262707eb39e6eeac540aa6915256596df30"), looks := true }, kinds := [], alts := [], laidByText := true, laidKinds := [.data], laidTests := true, laidLooks := .later }
def FnExactMoneyNegUptoCardSaid : Prop := Claim7.holds Tryd.pinned (.plain (OpenSpec.upto fnExactMoneyNegSpec)) fnExactMoneyNegUptoCard

/-- THE SECOND FORM's CARD OF 'laws.FnExactMoneyTimes'. -/
def fnExactMoneyTimesUptoCard : Claim7 := { stood := { row := fnExactMoneyTimesUptoRow, standIns := [], harness := (true, "7c01be425abec42bb8dd2fdf414ee262707eb39e6eeac540aa6915256596df30"), looks := true }, kinds := [], alts := [], laidByText := true, laidKinds := [.data], laidTests := true, laidLooks := .later }
def FnExactMoneyTimesUptoCardSaid : Prop := Claim7.holds Tryd.pinned (.plain (OpenSpec.upto fnExactMoneyTimesSpec)) fnExactMoneyTimesUptoCard

/-- THE SECOND FORM's CARD OF 'laws.FnExactMoneyCmp'. -/
def fnExactMoneyCmpUptoCard : Claim7 := { stood := { row := fnExactMoneyCmpUptoRow, standIns := [], harness := (true, "7c01be425abec42bb8dd2fdf414ee262707eb39e6eeac540aa6915256596df30"), looks := true }, kinds := [], alts := [], laidByText := true, laidKinds := [.data], laidTests := true, laidLooks := .later }
def FnExactMoneyCmpUptoCardSaid : Prop := Claim7.holds Tryd.pinned (.plain (OpenSpec.upto fnExactMoneyCmpSpec)) fnExactMoneyCmpUptoCard

/-- THE SECOND FORM's CARD OF 'laws.FnExactMoneyRat'. -/
def fnExactMoneyRatUptoCard : Claim7 := { stood := { row := fnExactMoneyRatUptoRow, standIns := [], harness := (true, "7c01be425abec42bb8dd2fdf414ee262707eb39e6eeac540aa6915256596df30"), looks := true }, kinds := [], alts := [], laidByText := true, laidKinds := [.sentinel, .data], laidTests := true, laidLooks := .later }
def FnExactMoneyRatUptoCardSaid : Prop := Claim7.holds Tryd.pinned (.plain (OpenSpec.upto fnExactMoneyRatSpec)) fnExactMoneyRatUptoCard

/-- THE SECOND FORM's CARD OF 'laws.FnExactMoneySum'. -/
def fnExactMoneySumUptoCard : Claim7 := { stood := { row := fnExactMoneySumUptoRow, standIns := [], harness := (true, "7c01be425abec42bb8dd2fdf414ee262707eb39e6eeac540aa6915256596df30"), looks := true }, kinds := [], alts := [], laidByText := true, laidKinds := [.data], laidTests := true, laidLooks := .later }
def FnExactMoneySumUptoCardSaid : Prop := Claim7.holds Tryd.pinned (.plain (OpenSpec.upto fnExactMoneySumSpec)) fnExactMoneySumUptoCard
end Rows
end Go.Proofs.YtcenmdiblbooeaaDoor
