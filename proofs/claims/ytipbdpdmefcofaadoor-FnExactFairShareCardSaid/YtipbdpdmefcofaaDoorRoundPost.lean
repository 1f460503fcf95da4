/-
  What calls of chapter 7 answer.
-/
import Derived.Test.YtipbdpdmefcofaaDoorRoundPlain
import Derived.Test.YtipbdpdmefcofaaDoorLoc
namespace Go.Proofs.YtipbdpdmefcofaaDoor
open Go.RowKit

/-- what a call answers: a new signed number and a bool; a new signed number, a new fraction and a bool -/
def PostSb (R0 : SI) (R1 : Bool) (w : World) (e : Ending) (w' : World) : Prop :=
  ∃ (v : Value) (S : List Nat), e = .returned (.tuple #[v, .bool R1]) ∧ At S (OwnS v R0) w' ∧ Within S w.heap.size w'.heap.size ∧ Below w.heap.size w w'
def PostSQb (R0 : SI) (R1 : QI) (R2 : Bool) (w : World) (e : Ending) (w' : World) : Prop :=
  ∃ (v u : Value) (S T : List Nat), e = .returned (.tuple #[v, u, .bool R2]) ∧ At S (OwnS v R0) w' ∧ At T (OwnQ u R1) w' ∧ (∀ g ∈ S, g ∉ T) ∧ Within S w.heap.size w'.heap.size ∧ Within T w.heap.size w'.heap.size ∧ Below w.heap.size w w'
theorem postSb_eq {a r : SI} {b k : Bool} {w w' : World} {e : Ending} (h : PostSb a b w e w') (ha : a = r) (hb : b = k) : PostSb r k w e w' := by subst ha hb; exact h
end Go.Proofs.YtipbdpdmefcofaaDoor
