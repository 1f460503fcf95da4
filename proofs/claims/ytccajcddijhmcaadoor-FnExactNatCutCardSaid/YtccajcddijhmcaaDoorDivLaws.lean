/-
  The laws of chapter 4, walked: they return true wherever both packages answer alike.
-/
import Derived.Test.YtccajcddijhmcaaDoorObj
namespace Go.Proofs.YtccajcddijhmcaaDoor
open Go.RowKit




end Go.Proofs.YtccajcddijhmcaaDoor
