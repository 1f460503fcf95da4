/-
  Chapter 5 of package spec: IntNum, IntCmp, IntSign.
-/
import Derived.Test.YtipbdpdmefcofaaDoorSignSpec
namespace Go.Proofs.YtipbdpdmefcofaaDoor
open Go.RowKit

/-- what IntNum answers -/
def numS (x : SI) : Int × Bool := if okS x = true ∧ nval x.2 ≤ 9223372036854775807 then (valS x, true) else (0, false)



end Go.Proofs.YtipbdpdmefcofaaDoor
