/-
  Impl's look-ups over its table of currencies, a package-level array.
-/
import Derived.Test.YtbfolegllhpkjaaDoorCurPlain
import Derived.Deep.MidRow
namespace Go.Proofs.YtbfolegllhpkjaaDoor
open Go.RowKit

def CurTab (w : World) : Prop := w.var? Tryd.prog "loop.example/g00793/impl.currencies" = some (cellsT implT).toArray
theorem curNamed : Tryd.prog.globalNamed "loop.example/g00793/impl.currencies" = some 0 := by kernel_rfl
theorem CurTab.lt {w : World} (h : CurTab w) : 0 < w.heap.size := by
  unfold CurTab World.var? at h
  rw [curNamed] at h
  simp only [Option.bind_some] at h
  cases hh : w.heap[0]? with
  | none => rw [hh] at h; cases h
  | some o => exact (Array.getElem?_eq_some_iff.1 hh).1
theorem CurTab.below {w w' : World} (h : CurTab w) (hb : Below w.heap.size w w') : CurTab w' := by
  have hl := h.lt
  unfold CurTab World.var? at h ⊢
  rw [curNamed] at h ⊢
  simp only [Option.bind_some] at h ⊢
  rw [hb.block _ hl]
  exact h
theorem CurTab.range {w : World} (h : CurTab w) : w.rangeAt 0 0 (cellsT implT) := by
  intro j v hv
  rw [World.var?_cell curNamed h (0 + j), Nat.zero_add]
  simpa using hv
theorem curInfo : (Tryd.prog.info? 35).map (·.size) = some (cellsT implT).length := by kernel_rfl
set_option maxRecDepth 100000 in
theorem cur_index (k : Nat) (hk : k < 20) (w : World) : (Instr.index 35 (.agg (cellsT implT).toArray) (.int .i64 (k : Int))).run Tryd.prog w = .ok (.agg (cellsC (implT[k]'hk)).toArray) w := by
  have h : k = 0 ∨ k = 1 ∨ k = 2 ∨ k = 3 ∨ k = 4 ∨ k = 5 ∨ k = 6 ∨ k = 7 ∨ k = 8 ∨ k = 9 ∨ k = 10 ∨ k = 11 ∨ k = 12 ∨ k = 13 ∨ k = 14 ∨ k = 15 ∨ k = 16 ∨ k = 17 ∨ k = 18 ∨ k = 19 := by omega
  rcases h with h | h | h | h | h | h | h | h | h | h | h | h | h | h | h | h | h | h | h | h <;> (subst h; show _ = _; kernel_rfl)
set_option maxHeartbeats 1000000 in
set_option maxRecDepth 100000 in
theorem implCurOf_any (n : ByteArray) (w : World) (ht : CurTab w) : Calls Tryd.prog 6 #[.string n] w fun e w' => e = .returned (.string (byNum implT n)) ∧ Below w.heap.size w w' := by
  have HT := Lib.hid ht
  have HI := Lib.hid cur_index
  go_enter Tryd.func6, Tryd.ntmps6
  go_wp2
  refine wp_load_mid 35 _ (by rfl) 0 0 (by rfl) (cellsT implT) _ HT.out.range Tryd.underlying35 (by rfl) curInfo ?_
  generalize hTA : (cellsT implT).toArray = TA at *
  clear hTA ht
  go_wp2
  go_loopw [6] (fun i wr => ∃ k : Nat, k ≤ 20 ∧ i = .int .i64 k ∧ Hid (∀ r ∈ implT.take k, ¬ r.2.1 = n) ∧ Below w.heap.size w wr) (fun i _ => 20 - (intOf i).toNat)
  case atStart => exact ⟨0, Nat.zero_le _, rfl, Lib.hid (fun r hr => absurd hr (by simp)), Below.refl _ _⟩
  case round =>
    obtain ⟨k, hk, rfl, hp, hb⟩ := hrel
    by_cases hlt : k < 20
    · have hix := HI.out k hlt
      have HM := Lib.hid (show implT[k] ∈ implT from List.getElem_mem _)
      have HN := Lib.hid (fun h => take_next hp.out (show k < implT.length from hlt) h)
      generalize implT[k] = r at hix HM HN
      obtain ⟨c, m, p, q⟩ := r
      simp only [cellsC] at hix
      by_cases he : m = n
      · subst he
        have hA := Lib.hid (byNum_mem implT_nums HM.out)
        clear HM HN hp
        go_wp2
        go_ret
        exact ⟨ret_str hA.out.symm, hb.alloc (by have := hb.size; omega) _⟩
      · have HN2 := Lib.hid (HN.out he)
        clear HM HN hp
        have hne := bytes_neC he
        go_wp2
        exact ⟨⟨k + 1, by omega, by go_num, HN2, hb.alloc (by have := hb.size; omega) _⟩, by simp [intOf]; omega⟩
    · obtain rfl : k = 20 := by omega
      have hA := Lib.hid (byNum_none (l := implT) (n := n) (by rw [← List.take_of_length_le (l := implT) (i := 20) (by decide)]; exact hp.out))
      clear hp
      go_wp2
      go_ret
      exact ⟨ret_str hA.out.symm, hb⟩
end Go.Proofs.YtbfolegllhpkjaaDoor
