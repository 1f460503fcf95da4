/-
  A closed fact of the card of FnExactUnitRate: by what it goes.
-/
import Derived.Test.YtehkknphcflofaaGreatDoorCards
import Derived.WalkKit
import Derived.JoinedCond
import Derived.Test.YtehkknphcflofaaGreatDoorJU10
namespace Go.Proofs.YtehkknphcflofaaGreatDoor
open Go.ChangeShapes Go.WideShapes Go.ChangeAt Go.RowKit
set_option maxRecDepth 100000 in
theorem fnExactUnitRate_goes : false = Rows.fnExactUnitRateRow.goesBy Tryz.pinned.checked.prog := by kernel_rfl
end Go.Proofs.YtehkknphcflofaaGreatDoor
