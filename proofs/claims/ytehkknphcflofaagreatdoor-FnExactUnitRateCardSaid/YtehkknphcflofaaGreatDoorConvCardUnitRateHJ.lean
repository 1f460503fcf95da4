/-
  The closed facts of the row of FnExactUnitRate.
-/
import Derived.Test.YtehkknphcflofaaGreatDoorRows
import Derived.WalkKit
import Derived.JoinedCond
import Derived.Test.YtehkknphcflofaaGreatDoorJU10
namespace Go.Proofs.YtehkknphcflofaaGreatDoor
open Go.ChangeShapes Go.WideShapes Go.ChangeAt Go.RowKit
set_option maxHeartbeats 4000000 in
set_option maxRecDepth 100000 in
theorem fnExactUnitRate_closed : joinedFacts Tryz.prog 8 Tryz.f8 (OpenSpec.ofChange Rows.fnExactUnitRateSpec).bare Rows.fnExactUnitRateRow = true := by
  unfold joinedFacts
  simp only [Bool.and_eq_true]
  repeat' apply And.intro
  all_goals (as_aux_lemma => kernel_rfl)
end Go.Proofs.YtehkknphcflofaaGreatDoor
