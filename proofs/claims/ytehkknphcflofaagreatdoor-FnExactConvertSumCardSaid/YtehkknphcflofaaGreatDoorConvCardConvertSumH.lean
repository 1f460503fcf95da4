/-
  The closed facts of the row of FnExactConvertSum.
-/
import Derived.Test.YtehkknphcflofaaGreatDoorRows
import Derived.WalkKit
import Derived.JoinedCond
namespace Go.Proofs.YtehkknphcflofaaGreatDoor
open Go.ChangeShapes Go.WideShapes Go.ChangeAt Go.RowKit
set_option maxHeartbeats 4000000 in
set_option maxRecDepth 100000 in
theorem fnExactConvertSum_closed : joinedFacts Tryz.prog 12 Tryz.f12 (OpenSpec.ofChange Rows.fnExactConvertSumSpec).bare Rows.fnExactConvertSumRow = true := by
  unfold joinedFacts
  simp only [Bool.and_eq_true]
  repeat' apply And.intro
  all_goals (as_aux_lemma => kernel_rfl)
end Go.Proofs.YtehkknphcflofaaGreatDoor
