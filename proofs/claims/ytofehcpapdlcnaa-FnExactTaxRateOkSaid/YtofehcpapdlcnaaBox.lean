/-
  Boxes: a block that holds known cells.
-/
import Derived.Test.YtofehcpapdlcnaaObj
import Derived.Lib.Builder
namespace Go.Proofs.Ytofehcpapdlcnaa
open Go.RowKit

/-- block g holds the cells cs of type T -/
def BoxAt (g : Nat) (cs : Array Value) (T : TypeId) (w : World) : Prop := w.heap[g]? = some (.cells cs T (0, 0))
theorem box_at {g : Nat} {cs : Array Value} {T : TypeId} {w : World} (h : BoxAt g cs T w) : At [g] (BoxAt g cs T) w :=
  ⟨h, fun i hi => by simp at hi; subst hi; exact (Array.getElem?_eq_some_iff.1 h).1, fun w' hk => (hk g (by simp)).trans h⟩
theorem box_new (w : World) (cs : Array Value) (T : TypeId) : At [w.heap.size] (BoxAt w.heap.size cs T) (w.alloc (.cells cs T)) := box_at (heap_alloc_new w _)
theorem BoxAt.cell {g : Nat} {cs : Array Value} {T : TypeId} {w : World} (h : BoxAt g cs T w) (j : Nat) (u : Value) (hj : cs[j]? = some u) : w.cell? ⟨g, j, none⟩ = some u := by
  rw [Lib.cell_of_heap h]; exact hj
theorem below_al {W0 W : World} (h : Below W0.heap.size W0 W) (o : Obj) : Below W0.heap.size W0 (W.alloc o) := h.alloc h.size o
end Go.Proofs.Ytofehcpapdlcnaa
