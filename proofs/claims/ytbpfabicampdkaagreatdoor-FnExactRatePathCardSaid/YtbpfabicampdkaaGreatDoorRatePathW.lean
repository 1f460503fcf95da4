/-
  New slices of texts.
-/
import Derived.Test.YtbpfabicampdkaaGreatDoorJB10
namespace Go.Proofs.YtbpfabicampdkaaGreatDoor
open Go.RowKit

/-- a new slice of texts -/
def NewStr (l : List ByteArray) (w : World) (e : Ending) (w' : World) : Prop := ∃ v, e = .returned v ∧ w'.ownsRow w.heap.size 9 1 v l.length (l.map Value.string) ∧ Below w.heap.size w w'
theorem newStr_lit {w W : World} (l : List ByteArray) (hl : l.length ≤ 3) (hb : Below w.heap.size w W) : NewStr l w (.returned (.slice (some ⟨W.heap.size, 0, none⟩) l.length l.length)) (W.alloc (.cells (l.map Value.string).toArray 9)) := by
  have h := World.ownsRow_lit (e := 9) (size := 1) (base := w.heap.size) W (l.map Value.string).toArray l.length hb.size (by unfold maxLen; omega) (by simp)
  exact ⟨_, rfl, h, hb.alloc hb.size _⟩
theorem newStr_eq {l r : List ByteArray} (e : l = r) {w w' : World} {n : Ending} (h : NewStr r w n w') : NewStr l w n w' := e ▸ h
theorem newStr_nil {w W : World} (hb : Below w.heap.size w W) : NewStr [] w (.returned (.slice none 0 0)) W := ⟨_, rfl, World.ownsRow_nil _ _ _ _, hb⟩
theorem eqStringS_at (u v : Value) (ss ts : List ByteArray) (w : World) (hl : ss.length ≤ 9223372036854775807) (hu : w.ownsRow 0 9 1 u ss.length (ss.map Value.string)) (hv : w.ownsRow 0 9 1 v ts.length (ts.map Value.string)) :
    Calls Tryz.prog 36 #[u, v] w fun e w' => e = .returned (.bool (decide (ss = ts))) ∧ Below w.heap.size w w' := by
  refine (eqStringS_any u v ss ts _ _ _ _ w hl (Row.of_own hu) (Row.of_own hv)).mono ?_
  rintro e w' ⟨rfl, q, rfl⟩
  exact ⟨rfl, below_drewN (Below.refl _ _) q⟩
end Go.Proofs.YtbpfabicampdkaaGreatDoor
