/-
  The closed facts of the row of FnExactConvert.
-/
import Derived.Test.YtipbdpdmefcofabGreatDoorRows
import Derived.WalkKit
import Derived.JoinedCond
namespace Go.Proofs.YtipbdpdmefcofabGreatDoor
open Go.ChangeShapes Go.WideShapes Go.ChangeAt Go.RowKit
set_option maxHeartbeats 4000000 in
set_option maxRecDepth 100000 in
theorem fnExactConvert_closed : joinedFacts Tryz.prog 3 Tryz.f3 (OpenSpec.ofChange Rows.fnExactConvertSpec).bare Rows.fnExactConvertRow = true := by
  unfold joinedFacts
  simp only [Bool.and_eq_true]
  repeat' apply And.intro
  all_goals (as_aux_lemma => kernel_rfl)
end Go.Proofs.YtipbdpdmefcofabGreatDoor
