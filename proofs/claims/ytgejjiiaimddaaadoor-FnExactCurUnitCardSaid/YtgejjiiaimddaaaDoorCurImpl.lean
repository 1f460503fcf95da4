/-
  Impl's look-ups over its table of currencies, a package-level array.
-/
import Derived.Test.YtgejjiiaimddaaaDoorCurPlain
import Derived.Deep.MidRow
namespace Go.Proofs.YtgejjiiaimddaaaDoor
open Go.RowKit

def CurTab (w : World) : Prop := w.var? Tryd.prog "loop.example/g00793/impl.currencies" = some (cellsT implT).toArray
theorem curNamed : Tryd.prog.globalNamed "loop.example/g00793/impl.currencies" = some 0 := by kernel_rfl
theorem CurTab.lt {w : World} (h : CurTab w) : 0 < w.heap.size := by
  unfold CurTab World.var? at h
  rw [curNamed] at h
  simp only [Option.bind_some] at h
  cases hh : w.heap[0]? with
  | none => rw [hh] at h; cases h
  | some o => exact (Array.getElem?_eq_some_iff.1 hh).1
theorem CurTab.below {w w' : World} (h : CurTab w) (hb : Below w.heap.size w w') : CurTab w' := by
  have hl := h.lt
  unfold CurTab World.var? at h ⊢
  rw [curNamed] at h ⊢
  simp only [Option.bind_some] at h ⊢
  rw [hb.block _ hl]
  exact h
theorem CurTab.range {w : World} (h : CurTab w) : w.rangeAt 0 0 (cellsT implT) := by
  intro j v hv
  rw [World.var?_cell curNamed h (0 + j), Nat.zero_add]
  simpa using hv
theorem curInfo : (Tryd.prog.info? 49).map (·.size) = some (cellsT implT).length := by kernel_rfl
set_option maxRecDepth 100000 in
theorem cur_index (k : Nat) (hk : k < 20) (w : World) : (Instr.index 49 (.agg (cellsT implT).toArray) (.int .i64 (k : Int))).run Tryd.prog w = .ok (.agg (cellsC (implT[k]'hk)).toArray) w := by
  have h : k = 0 ∨ k = 1 ∨ k = 2 ∨ k = 3 ∨ k = 4 ∨ k = 5 ∨ k = 6 ∨ k = 7 ∨ k = 8 ∨ k = 9 ∨ k = 10 ∨ k = 11 ∨ k = 12 ∨ k = 13 ∨ k = 14 ∨ k = 15 ∨ k = 16 ∨ k = 17 ∨ k = 18 ∨ k = 19 := by omega
  rcases h with h | h | h | h | h | h | h | h | h | h | h | h | h | h | h | h | h | h | h | h <;> (subst h; show _ = _; kernel_rfl)
end Go.Proofs.YtgejjiiaimddaaaDoor
