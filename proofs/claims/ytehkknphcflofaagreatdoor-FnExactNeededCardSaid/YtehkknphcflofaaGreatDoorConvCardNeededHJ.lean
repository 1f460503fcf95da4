/-
  The closed facts of the row of FnExactNeeded.
-/
import Derived.Test.YtehkknphcflofaaGreatDoorRows
import Derived.WalkKit
import Derived.JoinedCond
import Derived.Test.YtehkknphcflofaaGreatDoorJU10
namespace Go.Proofs.YtehkknphcflofaaGreatDoor
open Go.ChangeShapes Go.WideShapes Go.ChangeAt Go.RowKit
set_option maxHeartbeats 4000000 in
set_option maxRecDepth 100000 in
theorem fnExactNeeded_closed : joinedFacts Tryz.prog 11 Tryz.f11 (OpenSpec.ofChange Rows.fnExactNeededSpec).bare Rows.fnExactNeededRow = true := by
  unfold joinedFacts
  simp only [Bool.and_eq_true]
  repeat' apply And.intro
  all_goals (as_aux_lemma => kernel_rfl)
end Go.Proofs.YtehkknphcflofaaGreatDoor
