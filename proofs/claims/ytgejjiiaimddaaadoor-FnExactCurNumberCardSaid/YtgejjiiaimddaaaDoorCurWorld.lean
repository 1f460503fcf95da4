/-
  A world for the witness: the settled one, the table of currencies holding what its initialiser lays.
-/
import Derived.Test.YtgejjiiaimddaaaDoorCurTab
namespace Go.Proofs.YtgejjiiaimddaaaDoor
open Go.ChangeShapes Go.WideShapes Go.ChangeAt Go.RowKit

def putC (cs : Array Value) : Obj → Obj
  | .cells _ t frozen => .cells cs t frozen
  | o => o
noncomputable def curWorld (os : Os) : World :=
  { World.holding Tryd.prog os ⟨#[], #[], []⟩ with heap := (World.holding Tryd.prog os ⟨#[], #[], []⟩).heap.modify 0 (putC (cellsT implT).toArray) }
end Go.Proofs.YtgejjiiaimddaaaDoor
