/-
  What the law FnDec stands on.
-/
import Derived.Test.YtbfolegllhpkjaaGreatDoorJF10
namespace Go.Proofs.YtbfolegllhpkjaaGreatDoor
theorem fnDecBase : True := trivial
end Go.Proofs.YtbfolegllhpkjaaGreatDoor
