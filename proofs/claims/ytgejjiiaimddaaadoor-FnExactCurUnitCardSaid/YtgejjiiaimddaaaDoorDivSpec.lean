/-
  What l03Small and l03Digit of package spec return.
-/
import Derived.Test.YtgejjiiaimddaaaDoorNatConv
import Derived.Test.YtgejjiiaimddaaaDoorDivPlain
namespace Go.Proofs.YtgejjiiaimddaaaDoor
open Go.RowKit

/-- a new row and a number -/
def RowNum (xs : List Int) (r : Int) (w : World) (e : Ending) (w' : World) : Prop :=
  ∃ v, e = .returned (.tuple #[v, .int .i64 r]) ∧ w'.ownsRow w.heap.size 3 1 v xs.length (intsV xs) ∧ Below w.heap.size w w'



end Go.Proofs.YtgejjiiaimddaaaDoor
