/-
  Chapter 6 of package spec: RatMake, RatInt, RatZero, RatCmp and RatSign.
-/
import Derived.Test.YtgejjiiaimddaaaDoorRatSpec2
import Derived.Deep.DeepCutAuto
import Derived.Laws.OwnMore
namespace Go.Proofs.YtgejjiiaimddaaaDoor
open Go.RowKit

end Go.Proofs.YtgejjiiaimddaaaDoor
