/-
  A closed fact of the card of FnExactConvert: by what it goes.
-/
import Derived.Test.YtipbdpdmefcofabGreatDoorCards
import Derived.WalkKit
import Derived.JoinedCond
namespace Go.Proofs.YtipbdpdmefcofabGreatDoor
open Go.ChangeShapes Go.WideShapes Go.ChangeAt Go.RowKit
set_option maxRecDepth 100000 in
theorem fnExactConvert_goes : false = Rows.fnExactConvertRow.goesBy Tryz.pinned.checked.prog := by kernel_rfl
end Go.Proofs.YtipbdpdmefcofabGreatDoor
