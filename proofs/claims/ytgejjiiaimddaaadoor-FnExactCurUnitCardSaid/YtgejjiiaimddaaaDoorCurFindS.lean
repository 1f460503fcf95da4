/-
  Spec's look-ups by code.
-/
import Derived.Test.YtgejjiiaimddaaaDoorCurSpec
import Derived.Test.YtgejjiiaimddaaaDoorMoneyPlain
import Derived.Test.YtgejjiiaimddaaaDoorLoc0
namespace Go.Proofs.YtgejjiiaimddaaaDoor
open Go.RowKit

def RowPost (r : CR) (w : World) (e : Ending) (w' : World) : Prop := e = .returned (.agg #[.string r.1, .string r.2.1, .int .i64 r.2.2.1, .int .i64 r.2.2.2]) ∧ Below w.heap.size w w'
theorem below_set4 {W0 W : World} {g : Nat} {a b c d : Value} (h : Below W0.heap.size W0 W) (hg : W0.heap.size ≤ g) : Below W0.heap.size W0 ((((W.setCell ⟨g, 0, none⟩ a).setCell ⟨g, 1, none⟩ b).setCell ⟨g, 2, none⟩ c).setCell ⟨g, 3, none⟩ d) :=
  (((h.setCell (p := ⟨g, 0, none⟩) hg _).setCell (p := ⟨g, 1, none⟩) hg _).setCell (p := ⟨g, 2, none⟩) hg _).setCell (p := ⟨g, 3, none⟩) hg _
set_option maxHeartbeats 1000000 in
set_option maxRecDepth 100000 in
theorem l08Find_any (n : ByteArray) (w : World) : Calls Tryd.prog 18 #[.string n] w (RowPost (rowOf specT n) w) := by
  have kr := box_new w #[.string ⟨#[]⟩, .string ⟨#[]⟩, .int .i64 0, .int .i64 0] 34
  have b0 := below_al (Below.refl w.heap.size w) (.cells #[.string ⟨#[]⟩, .string ⟨#[]⟩, .int .i64 0, .int .i64 0] 34)
  obtain ⟨W0, hW0⟩ : ∃ W0, W0 = w.alloc (.cells #[.string ⟨#[]⟩, .string ⟨#[]⟩, .int .i64 0, .int .i64 0] 34) := ⟨_, rfl⟩
  rw [← hW0] at kr b0
  have HW := Lib.hid hW0
  clear hW0
  go_enter Tryd.func18, Tryd.ntmps18
  go_wp2_with fail
  rw [← HW.out]
  refine (l08Table_any _).mono ?_
  rintro e w1 ⟨rfl, hw1⟩
  have b1 : Below W0.heap.size W0 w1 := by rw [hw1]; exact (Below.refl _ _).alloc (Nat.le_refl _) _
  have hr1 : w1.rangeAt W0.heap.size 0 (cellsT specT) := by rw [hw1]; exact range_new _ _ _
  have hg1 : W0.heap.size < w1.heap.size := by rw [hw1]; simp
  have HR := Lib.hid (show ∀ W, Below w1.heap.size w1 W → ∀ k (hk : k < 20), RowCells W W0.heap.size k (specT[k]'hk) from fun W hb k hk => rowCells_of (range_below hr1 hg1 hb) hk)
  have HK := Lib.hid (kr.below b1)
  have B1 := Lib.hid (Below.next b0 b1)
  generalize W0.heap.size = g at HR hg1
  clear hw1 hr1 b1 kr b0 HW
  go_wp2
  go_loopw [7] (fun i wr => ∃ k : Nat, k ≤ 20 ∧ i = .int .i64 k ∧ Hid (∀ r ∈ specT.take k, ¬ r.1 = n) ∧ Below w1.heap.size w1 wr) (fun i _ => 20 - (intOf i).toNat)
  case atStart => exact ⟨0, Nat.zero_le _, rfl, Lib.hid (fun r hr => absurd hr (by simp)), Below.refl _ _⟩
  case round =>
    obtain ⟨k, hk, rfl, hp, hb⟩ := hrel
    by_cases hlt : k < 20
    · have hix := HR.out wr hb k hlt
      have HM := Lib.hid (show specT[k] ∈ specT from List.getElem_mem _)
      have HN := Lib.hid (fun h => take_next hp.out (show k < specT.length from hlt) h)
      generalize specT[k] = r at hix HM HN
      obtain ⟨c, m, p, q⟩ := r
      obtain ⟨x0, x1, x2, x3⟩ := hix
      dsimp only at x0 x1 x2 x3
      have hal := below_al (Below.refl wr.heap.size wr) (.cells #[.string c, .string m, .int .i64 p, .int .i64 q] 34)
      by_cases he : c = n
      · subst he
        have hA := Lib.hid (rowOf_mem specT_codes HM.out)
        have ko := (HK.out.below hb).below hal
        have HB := Lib.hid (Below.next (Below.next B1.out hb) hal)
        have co0 := ko.here.cell 0 _ rfl
        have co1 := ko.here.cell 1 _ rfl
        have co2 := ko.here.cell 2 _ rfl
        have co3 := ko.here.cell 3 _ rfl
        have fo0 := Lib.frozen_of_heap ko.here 0
        have fo1 := Lib.frozen_of_heap ko.here 1
        have fo2 := Lib.frozen_of_heap ko.here 2
        have fo3 := Lib.frozen_of_heap ko.here 3
        clear HM HN hp ko hal
        go_wp2
        refine bodyPost_ret (v := .agg #[.string c, .string m, .int .i64 p, .int .i64 q]) (by simp [results, Tryd.results18, go_sem, co0, co1, co2, co3]) rfl ?_
        unfold RowPost
        rw [hA.out]
        exact ⟨rfl, below_set4 HB.out (Nat.le_refl _)⟩
      · have HN2 := Lib.hid (HN.out he)
        clear HM HN hp hal
        have hne := bytes_neC he
        go_wp2
        exact ⟨⟨k + 1, by omega, by go_num, HN2, hb.alloc (by have := hb.size; omega) _⟩, by simp [intOf]; omega⟩
    · obtain rfl : k = 20 := by omega
      have hA := Lib.hid (rowOf_none (l := specT) (n := n) (by rw [← List.take_of_length_le (l := specT) (i := 20) (by decide)]; exact hp.out))
      have ko := HK.out.below hb
      have HB := Lib.hid (Below.next B1.out hb)
      have co0 := ko.here.cell 0 _ rfl
      have co1 := ko.here.cell 1 _ rfl
      have co2 := ko.here.cell 2 _ rfl
      have co3 := ko.here.cell 3 _ rfl
      have fo0 := Lib.frozen_of_heap ko.here 0
      have fo1 := Lib.frozen_of_heap ko.here 1
      have fo2 := Lib.frozen_of_heap ko.here 2
      have fo3 := Lib.frozen_of_heap ko.here 3
      clear hp ko
      go_wp2
      refine bodyPost_ret (v := .agg #[.string ⟨#[]⟩, .string ⟨#[]⟩, .int .i64 0, .int .i64 0]) (by simp [results, Tryd.results18, go_sem, co0, co1, co2, co3]) rfl ?_
      unfold RowPost
      rw [hA.out]
      first | exact ⟨rfl, HB.out⟩ | exact ⟨rfl, below_set4 HB.out (Nat.le_refl _)⟩
theorem field_row0 (c m : ByteArray) (p q : Int) (W : World) : (Instr.field 34 (.agg #[.string c, .string m, .int .i64 p, .int .i64 q]) 0).run Tryd.prog W = .ok (.string c) W := by kernel_rfl
theorem field_row1 (c m : ByteArray) (p q : Int) (W : World) : (Instr.field 34 (.agg #[.string c, .string m, .int .i64 p, .int .i64 q]) 1).run Tryd.prog W = .ok (.string m) W := by kernel_rfl
theorem field_row2 (c m : ByteArray) (p q : Int) (W : World) : (Instr.field 34 (.agg #[.string c, .string m, .int .i64 p, .int .i64 q]) 2).run Tryd.prog W = .ok (.int .i64 p) W := by kernel_rfl
theorem field_row3 (c m : ByteArray) (p q : Int) (W : World) : (Instr.field 34 (.agg #[.string c, .string m, .int .i64 p, .int .i64 q]) 3).run Tryd.prog W = .ok (.int .i64 q) W := by kernel_rfl
theorem empty_list : (⟨#[]⟩ : ByteArray).toList = [] := by rw [ByteArray.toList_eq]
theorem known_neq (n : ByteArray) : ((rowOf specT n).1.toList == ([] : List UInt8)) = !knownC n := by
  rw [← known_ne n]
  by_cases h : (rowOf specT n).1 = ⟨#[]⟩
  · rw [h, empty_list]; rfl
  · have h2 := bytes_neC h
    rw [empty_list] at h2
    rw [h2, decide_eq_true h]
    rfl
set_option maxHeartbeats 400000 in
set_option maxRecDepth 100000 in
theorem specCurKnown_any (n : ByteArray) (w : World) : Calls Tryd.prog 20 #[.string n] w (Postb (knownC n) w) := by
  go_enter Tryd.func20, Tryd.ntmps20
  go_wp2_with fail
  refine (l08Find_any n _).mono ?_
  rintro e w1 ⟨rfl, b1⟩
  have hk := known_neq n
  generalize rowOf specT n = r at *
  obtain ⟨c, m, p, q⟩ := r
  dsimp only at hk ⊢
  have hk2 : (c.toList != ([] : List UInt8)) = knownC n := by rw [bne, hk, Bool.not_not]
  generalize knownC n = b at *
  have hf := field_row0 c m p q
  go_wp2
  go_ret
  exact ⟨rfl, b1⟩
set_option maxHeartbeats 400000 in
set_option maxRecDepth 100000 in
theorem specCurNumber_any (n : ByteArray) (w : World) : Calls Tryd.prog 7 #[.string n] w fun e w' => e = .returned (.string (rowOf specT n).2.1) ∧ Below w.heap.size w w' := by
  go_enter Tryd.func7, Tryd.ntmps7
  go_wp2_with fail
  refine (l08Find_any n _).mono ?_
  rintro e w1 ⟨rfl, b1⟩
  have hf := field_row1 (rowOf specT n).1 (rowOf specT n).2.1 (rowOf specT n).2.2.1 (rowOf specT n).2.2.2
  go_wp2
  go_ret
  exact ⟨rfl, b1⟩
set_option maxHeartbeats 400000 in
set_option maxRecDepth 100000 in
theorem specCurPlaces_any (n : ByteArray) (w : World) : Calls Tryd.prog 9 #[.string n] w fun e w' => e = .returned (.int .i64 (placesC n)) ∧ Below w.heap.size w w' := by
  go_enter Tryd.func9, Tryd.ntmps9
  go_wp2_with fail
  refine (l08Find_any n _).mono ?_
  rintro e w1 ⟨rfl, b1⟩
  have hf := field_row2 (rowOf specT n).1 (rowOf specT n).2.1 (rowOf specT n).2.2.1 (rowOf specT n).2.2.2
  go_wp2
  go_ret
  exact ⟨rfl, b1⟩
set_option maxHeartbeats 400000 in
set_option maxRecDepth 100000 in
theorem specCurCash_any (n : ByteArray) (w : World) : Calls Tryd.prog 11 #[.string n] w fun e w' => e = .returned (.int .i64 (rowOf specT n).2.2.2) ∧ Below w.heap.size w w' := by
  go_enter Tryd.func11, Tryd.ntmps11
  go_wp2_with fail
  refine (l08Find_any n _).mono ?_
  rintro e w1 ⟨rfl, b1⟩
  have hf := field_row3 (rowOf specT n).1 (rowOf specT n).2.1 (rowOf specT n).2.2.1 (rowOf specT n).2.2.2
  go_wp2
  go_ret
  exact ⟨rfl, b1⟩
end Go.Proofs.YtgejjiiaimddaaaDoor
