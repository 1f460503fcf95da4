/-
  Spec's look-ups over its table of currencies, a list that a call lays.
-/
import Derived.Test.YtbfolegllhpkjaaDoorCurPlain
import Derived.Deep.MidRow
namespace Go.Proofs.YtbfolegllhpkjaaDoor
open Go.RowKit

/-- the four cells of a row, where the table lies -/
def RowCells (W : World) (g k : Nat) (r : CR) : Prop := W.cell? ⟨g, k * 4, none⟩ = some (.string r.1) ∧ W.cell? ⟨g, k * 4 + 1, none⟩ = some (.string r.2.1) ∧ W.cell? ⟨g, k * 4 + 2, none⟩ = some (.int .i64 r.2.2.1) ∧ W.cell? ⟨g, k * 4 + 3, none⟩ = some (.int .i64 r.2.2.2)
theorem rowCells_of {W : World} {g : Nat} {l : List CR} (h : W.rangeAt g 0 (cellsT l)) {k : Nat} (hk : k < l.length) : RowCells W g k l[k] := by
  have f : ∀ j (hj : j < 4) v, (cellsC l[k])[j]? = some v → W.cell? ⟨g, k * 4 + j, none⟩ = some v := fun j hj v hv => by
    have := h (k * 4 + j) v (by rw [cellsT_get l k j hk hj]; exact hv)
    rwa [Nat.zero_add] at this
  exact ⟨f 0 (by decide) _ rfl, f 1 (by decide) _ rfl, f 2 (by decide) _ rfl, f 3 (by decide) _ rfl⟩
theorem range_new (w : World) (l : List Value) (T : TypeId) : (w.alloc (.cells l.toArray T)).rangeAt w.heap.size 0 l := by
  intro j v hv
  have hb : (w.alloc (.cells l.toArray T)).heap[w.heap.size]? = some (.cells l.toArray T (0, 0)) := Array.getElem?_push_size
  rw [Nat.zero_add]
  unfold World.cell?
  simp only [hb]
  simpa using hv
theorem range_below {w W : World} {g : Nat} {l : List Value} (h : w.rangeAt g 0 l) (hg : g < w.heap.size) (hb : Below w.heap.size w W) : W.rangeAt g 0 l := fun j v hv => (hb.cell hg).trans (h j v hv)
def TabPost (w : World) (e : Ending) (w' : World) : Prop := e = .returned (.slice (some ⟨w.heap.size, 0, none⟩) 20 20) ∧ w' = w.alloc (.cells (cellsT specT).toArray 32)
set_option maxHeartbeats 1000000 in
set_option maxRecDepth 100000 in
theorem l08Table_any (w : World) : Calls Tryd.prog 12 #[] w (TabPost w) := by
  go_enter Tryd.func12, Tryd.ntmps12
  go_wp2
  go_ret
  exact ⟨rfl, rfl⟩
set_option maxHeartbeats 1000000 in
set_option maxRecDepth 100000 in
theorem specCurOf_any (n : ByteArray) (w : World) : Calls Tryd.prog 5 #[.string n] w fun e w' => e = .returned (.string (byNum specT n)) ∧ Below w.heap.size w w' := by
  go_enter Tryd.func5, Tryd.ntmps5
  go_wp2_with fail
  refine (l08Table_any _).mono ?_
  rintro e w1 ⟨rfl, hw1⟩
  have b1 : Below w.heap.size w w1 := by rw [hw1]; exact (Below.refl _ _).alloc (Nat.le_refl _) _
  have hr1 : w1.rangeAt w.heap.size 0 (cellsT specT) := by rw [hw1]; exact range_new _ _ _
  have hg1 : w.heap.size < w1.heap.size := by rw [hw1]; simp
  have HR := Lib.hid (show ∀ W, Below w1.heap.size w1 W → ∀ k (hk : k < 20), RowCells W w.heap.size k (specT[k]'hk) from fun W hb k hk => rowCells_of (range_below hr1 hg1 hb) hk)
  have B1 := Lib.hid b1
  generalize w.heap.size = g at HR hg1
  clear hw1 hr1 b1
  go_wp2
  go_loopw [7] (fun i wr => ∃ k : Nat, k ≤ 20 ∧ i = .int .i64 k ∧ Hid (∀ r ∈ specT.take k, ¬ r.2.1 = n) ∧ Below w1.heap.size w1 wr) (fun i _ => 20 - (intOf i).toNat)
  case atStart => exact ⟨0, Nat.zero_le _, rfl, Lib.hid (fun r hr => absurd hr (by simp)), Below.refl _ _⟩
  case round =>
    obtain ⟨k, hk, rfl, hp, hb⟩ := hrel
    by_cases hlt : k < 20
    · have hix := HR.out wr hb k hlt
      have HM := Lib.hid (show specT[k] ∈ specT from List.getElem_mem _)
      have HN := Lib.hid (fun h => take_next hp.out (show k < specT.length from hlt) h)
      generalize specT[k] = r at hix HM HN
      obtain ⟨c, m, p, q⟩ := r
      obtain ⟨x0, x1, x2, x3⟩ := hix
      dsimp only at x0 x1 x2 x3
      by_cases he : m = n
      · subst he
        have hA := Lib.hid (byNum_mem specT_nums HM.out)
        clear HM HN hp
        go_wp2
        go_ret
        exact ⟨ret_str hA.out.symm, Below.next B1.out (hb.alloc (by have := hb.size; omega) _)⟩
      · have HN2 := Lib.hid (HN.out he)
        clear HM HN hp
        have hne := bytes_neC he
        go_wp2
        exact ⟨⟨k + 1, by omega, by go_num, HN2, hb.alloc (by have := hb.size; omega) _⟩, by simp [intOf]; omega⟩
    · obtain rfl : k = 20 := by omega
      have hA := Lib.hid (byNum_none (l := specT) (n := n) (by rw [← List.take_of_length_le (l := specT) (i := 20) (by decide)]; exact hp.out))
      clear hp
      go_wp2
      go_ret
      exact ⟨ret_str hA.out.symm, Below.next B1.out hb⟩
end Go.Proofs.YtbfolegllhpkjaaDoor
