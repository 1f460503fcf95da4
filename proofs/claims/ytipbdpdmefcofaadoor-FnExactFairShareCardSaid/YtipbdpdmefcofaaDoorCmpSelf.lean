/-
  Comparing: a number with itself, and two numbers turned round.
-/
import Derived.Test.YtipbdpdmefcofaaDoorNatPlain
namespace Go.Proofs.YtipbdpdmefcofaaDoor
open Go.RowKit

theorem cmpI_self (X : Int) : cmpI X X = 0 := by unfold cmpI; rw [if_neg (by omega), if_neg (by omega)]
theorem cmpI_turn (X Y : Int) : cmpI X Y = -cmpI Y X := by unfold cmpI; split <;> split <;> (try split) <;> (try split) <;> omega
end Go.Proofs.YtipbdpdmefcofaaDoor
