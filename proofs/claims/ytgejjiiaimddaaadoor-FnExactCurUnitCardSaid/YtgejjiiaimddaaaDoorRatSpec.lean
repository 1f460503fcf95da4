/-
  Chapter 6 of package spec: what its functions on fractions return (begun: l05Gcd).
-/
import Derived.Test.YtgejjiiaimddaaaDoorRat
import Derived.Test.YtgejjiiaimddaaaDoorDivSpec4
import Derived.Test.YtgejjiiaimddaaaDoorSignCmp
import Derived.Test.YtgejjiiaimddaaaDoorSignAdd
namespace Go.Proofs.YtgejjiiaimddaaaDoor
open Go.RowKit

/-- the state of l05Gcd's loop -/
def GcdR (w : World) (G : Nat) (n : Nat) (x y : Value) (wr : World) : Prop :=
  ∃ X Y : Nat, n = Y ∧ Nat.gcd X Y = G ∧ (limbs X).length ≤ 50 ∧ (limbs Y).length ≤ 50 ∧ wr.ownsRow 0 3 1 x (limbs X).length (intsV (limbs X)) ∧ wr.ownsRow 0 3 1 y (limbs Y).length (intsV (limbs Y)) ∧ Below w.heap.size w wr
end Go.Proofs.YtgejjiiaimddaaaDoor
