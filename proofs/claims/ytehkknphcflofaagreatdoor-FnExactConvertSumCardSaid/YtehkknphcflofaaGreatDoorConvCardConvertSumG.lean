/-
  A closed fact of the card of FnExactConvertSum: by what it goes.
-/
import Derived.Test.YtehkknphcflofaaGreatDoorCards
import Derived.WalkKit
import Derived.JoinedCond
namespace Go.Proofs.YtehkknphcflofaaGreatDoor
open Go.ChangeShapes Go.WideShapes Go.ChangeAt Go.RowKit
set_option maxRecDepth 100000 in
theorem fnExactConvertSum_goes : false = Rows.fnExactConvertSumRow.goesBy Tryz.pinned.checked.prog := by kernel_rfl
end Go.Proofs.YtehkknphcflofaaGreatDoor
