/-
  Chapter 7: the modes, their names and impl's table of them.
-/
import Derived.Test.YtipbdpdmefcofaaDoorModePlain
import Derived.Test.YtipbdpdmefcofaaDoorNatSpec
import Derived.Test.YtipbdpdmefcofaaDoorBox
import Derived.Laws.EntriesVeiled
namespace Go.Proofs.YtipbdpdmefcofaaDoor
open Go.RowKit

theorem modeB_in (m : Int) : inB m 0 6 = modeB m := rfl
/-- what a call answers that gives a string -/
def PostN (s : ByteArray) (w : World) (e : Ending) (w' : World) : Prop := e = .returned (.string s) ∧ Below w.heap.size w w'
theorem bytes_neM {a b : ByteArray} (h : ¬ a = b) : (a.toList == b.toList) = false := by
  rw [beq_eq_false_iff_ne]
  rw [ByteArray.toList_eq, ByteArray.toList_eq]
  exact fun e => h (WideShapes.bytes_inj e)
theorem bytes_eqM {a b : ByteArray} (h : a = b) : (a.toList == b.toList) = true := by subst h; exact beq_self_eq_true _
theorem below_set2M {W0 W : World} {g : Nat} {a b : Value} (h : Below W0.heap.size W0 W) (hg : W0.heap.size ≤ g) : Below W0.heap.size W0 ((W.setCell ⟨g, 0, none⟩ a).setCell ⟨g, 1, none⟩ b) := (h.setCell (p := ⟨g, 0, none⟩) hg _).setCell (p := ⟨g, 1, none⟩) hg _
end Go.Proofs.YtipbdpdmefcofaaDoor
