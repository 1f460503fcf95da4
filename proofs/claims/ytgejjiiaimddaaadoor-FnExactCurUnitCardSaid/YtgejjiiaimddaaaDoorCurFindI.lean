/-
  Impl's look-ups by code, where they scan the table.
-/
import Derived.Test.YtgejjiiaimddaaaDoorCurImpl
import Derived.Test.YtgejjiiaimddaaaDoorCurFindS
namespace Go.Proofs.YtgejjiiaimddaaaDoor
open Go.RowKit

def RowPostb (r : CR) (b : Bool) (w : World) (e : Ending) (w' : World) : Prop := e = .returned (.tuple #[.agg #[.string r.1, .string r.2.1, .int .i64 r.2.2.1, .int .i64 r.2.2.2], .bool b]) ∧ Below w.heap.size w w'
theorem knownI {r : CR} (h : r ∈ implT) : knownC r.1 = true := List.any_eq_true.2 ⟨r.1, List.mem_map_of_mem (implT_sub r h), decide_eq_true rfl⟩
theorem knownI_none {n : ByteArray} (h : ∀ r ∈ implT, ¬ r.1 = n) : knownC n = false := by
  cases e : knownC n with
  | false => rfl
  | true =>
    obtain ⟨r, hr, he, _⟩ := known_row e
    exact absurd he (h r (specT_sub r hr))
set_option maxHeartbeats 1000000 in
set_option maxRecDepth 100000 in
theorem implFind_any (n : ByteArray) (w : World) (ht : CurTab w) : Calls Tryd.prog 19 #[.string n] w (RowPostb (rowOf specT n) (knownC n) w) := by
  have kr := box_new w #[.string ⟨#[]⟩, .string ⟨#[]⟩, .int .i64 0, .int .i64 0] 37
  have b0 := below_al (Below.refl w.heap.size w) (.cells #[.string ⟨#[]⟩, .string ⟨#[]⟩, .int .i64 0, .int .i64 0] 37)
  have HT := Lib.hid (ht.below b0)
  obtain ⟨W0, hW0⟩ : ∃ W0, W0 = w.alloc (.cells #[.string ⟨#[]⟩, .string ⟨#[]⟩, .int .i64 0, .int .i64 0] 37) := ⟨_, rfl⟩
  rw [← hW0] at kr b0 HT
  have HW := Lib.hid hW0
  have HI := Lib.hid cur_index
  have HK := Lib.hid kr
  have B1 := Lib.hid b0
  clear hW0 kr b0 ht
  go_enter Tryd.func19, Tryd.ntmps19
  go_wp2
  rw [← HW.out]
  refine wp_load_mid 49 _ (by rfl) 0 0 (by rfl) (cellsT implT) _ HT.out.range Tryd.underlying49 (by rfl) curInfo ?_
  generalize hTA : (cellsT implT).toArray = TA at *
  clear hTA HW
  go_wp2
  go_loopw [7] (fun i wr => ∃ k : Nat, k ≤ 20 ∧ i = .int .i64 k ∧ Hid (∀ r ∈ implT.take k, ¬ r.1 = n) ∧ Below W0.heap.size W0 wr) (fun i _ => 20 - (intOf i).toNat)
  case atStart => exact ⟨0, Nat.zero_le _, rfl, Lib.hid (fun r hr => absurd hr (by simp)), Below.refl _ _⟩
  case round =>
    obtain ⟨k, hk, rfl, hp, hb⟩ := hrel
    by_cases hlt : k < 20
    · have hix := HI.out k hlt
      have HM := Lib.hid (show implT[k] ∈ implT from List.getElem_mem _)
      have HN := Lib.hid (fun h => take_next hp.out (show k < implT.length from hlt) h)
      generalize implT[k] = r at hix HM HN
      obtain ⟨c, m, p, q⟩ := r
      simp only [cellsC] at hix
      have hal := below_al (Below.refl wr.heap.size wr) (.cells #[.string c, .string m, .int .i64 p, .int .i64 q] 37)
      by_cases he : c = n
      · subst he
        have hA := Lib.hid (show rowOf specT c = _ from (rowOf_eq c).symm.trans (rowOf_mem implT_codes HM.out))
        have hA2 := Lib.hid (knownI HM.out)
        have ko := (HK.out.below hb).below hal
        have HB := Lib.hid (Below.next (Below.next B1.out hb) hal)
        have co0 := ko.here.cell 0 _ rfl
        have co1 := ko.here.cell 1 _ rfl
        have co2 := ko.here.cell 2 _ rfl
        have co3 := ko.here.cell 3 _ rfl
        have fo0 := Lib.frozen_of_heap ko.here 0
        have fo1 := Lib.frozen_of_heap ko.here 1
        have fo2 := Lib.frozen_of_heap ko.here 2
        have fo3 := Lib.frozen_of_heap ko.here 3
        clear HM HN hp ko hal
        go_wp2
        refine bodyPost_ret (v := .tuple #[.agg #[.string c, .string m, .int .i64 p, .int .i64 q], .bool true]) (by simp [results, Tryd.results19, go_sem, co0, co1, co2, co3]) rfl ?_
        unfold RowPostb
        rw [hA.out, show knownC c = true from hA2.out]
        exact ⟨rfl, below_set4 HB.out (Nat.le_refl _)⟩
      · have HN2 := Lib.hid (HN.out he)
        clear HM HN hp hal
        have hne := bytes_neC he
        go_wp2
        exact ⟨⟨k + 1, by omega, by go_num, HN2, hb.alloc (by have := hb.size; omega) _⟩, by simp [intOf]; omega⟩
    · obtain rfl : k = 20 := by omega
      have hnone : ∀ r ∈ implT, ¬ r.1 = n := by rw [← List.take_of_length_le (l := implT) (i := 20) (by decide)]; exact hp.out
      have hA := Lib.hid (show rowOf specT n = zeroC from (rowOf_eq n).symm.trans (rowOf_none hnone))
      have hA2 := Lib.hid (knownI_none hnone)
      have ko := HK.out.below hb
      have HB := Lib.hid (Below.next B1.out hb)
      have co0 := ko.here.cell 0 _ rfl
      have co1 := ko.here.cell 1 _ rfl
      have co2 := ko.here.cell 2 _ rfl
      have co3 := ko.here.cell 3 _ rfl
      have fo0 := Lib.frozen_of_heap ko.here 0
      have fo1 := Lib.frozen_of_heap ko.here 1
      have fo2 := Lib.frozen_of_heap ko.here 2
      have fo3 := Lib.frozen_of_heap ko.here 3
      clear hp ko hnone
      go_wp2
      refine bodyPost_ret (v := .tuple #[.agg #[.string ⟨#[]⟩, .string ⟨#[]⟩, .int .i64 0, .int .i64 0], .bool false]) (by simp [results, Tryd.results19, go_sem, co0, co1, co2, co3]) rfl ?_
      unfold RowPostb
      rw [hA.out, hA2.out]
      first | exact ⟨rfl, HB.out⟩ | exact ⟨rfl, below_set4 HB.out (Nat.le_refl _)⟩
set_option maxHeartbeats 400000 in
set_option maxRecDepth 100000 in
theorem implCurNumber_any (n : ByteArray) (w : World) (ht : CurTab w) : Calls Tryd.prog 8 #[.string n] w fun e w' => e = .returned (.string (rowOf specT n).2.1) ∧ Below w.heap.size w w' := by
  go_enter Tryd.func8, Tryd.ntmps8
  go_wp2_with fail
  refine (implFind_any n _ ht).mono ?_
  rintro e w1 ⟨rfl, b1⟩
  go_wp2
  go_ret
  exact ⟨rfl, below_al b1 _⟩
set_option maxHeartbeats 400000 in
set_option maxRecDepth 100000 in
theorem implCurPlaces_any (n : ByteArray) (w : World) (ht : CurTab w) : Calls Tryd.prog 10 #[.string n] w fun e w' => e = .returned (.int .i64 (placesC n)) ∧ Below w.heap.size w w' := by
  go_enter Tryd.func10, Tryd.ntmps10
  go_wp2_with fail
  refine (implFind_any n _ ht).mono ?_
  rintro e w1 ⟨rfl, b1⟩
  go_wp2
  go_ret
  exact ⟨rfl, below_al b1 _⟩
set_option maxHeartbeats 400000 in
set_option maxRecDepth 100000 in
theorem implCurCash_any (n : ByteArray) (w : World) (ht : CurTab w) : Calls Tryd.prog 12 #[.string n] w fun e w' => e = .returned (.int .i64 (rowOf specT n).2.2.2) ∧ Below w.heap.size w w' := by
  go_enter Tryd.func12, Tryd.ntmps12
  go_wp2_with fail
  refine (implFind_any n _ ht).mono ?_
  rintro e w1 ⟨rfl, b1⟩
  go_wp2
  go_ret
  exact ⟨rfl, below_al b1 _⟩
end Go.Proofs.YtgejjiiaimddaaaDoor
