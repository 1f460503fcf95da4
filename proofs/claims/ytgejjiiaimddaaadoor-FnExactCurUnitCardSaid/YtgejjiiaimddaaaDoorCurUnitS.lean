/-
  Spec's CurUnit: the number of smallest units in one unit, as a fraction.
-/
import Derived.Test.YtgejjiiaimddaaaDoorCurFindS
import Derived.Test.YtgejjiiaimddaaaDoorDecSpec
import Derived.Test.YtgejjiiaimddaaaDoorRatSpec4
namespace Go.Proofs.YtgejjiiaimddaaaDoor
open Go.RowKit

def unitC (n : ByteArray) : QI := if knownC n = true then (tenS (placesC n), [1]) else zeroQ
set_option maxHeartbeats 2000000 in
set_option maxRecDepth 100000 in
theorem specCurUnit_any (n : ByteArray) (w : World) : Calls Tryd.prog 13 #[.string n] w (NewV (fun v => OwnQ v (unitC n)) w) := by
  have ko := box_new w #[.bool false, .slice none 0 0, .slice none 0 0] 29
  have bb0 := below_al (Below.refl w.heap.size w) (.cells #[.bool false, .slice none 0 0, .slice none 0 0] 29)
  have HKO := Lib.hid (ko.lt w.heap.size (by simp))
  obtain ⟨W0, hW0⟩ : ∃ W0, W0 = w.alloc (.cells #[.bool false, .slice none 0 0, .slice none 0 0] 29) := ⟨_, rfl⟩
  rw [← hW0] at ko bb0 HKO
  have HW0 := Lib.hid hW0
  clear hW0
  go_enter Tryd.func13, Tryd.ntmps13
  go_wp2_with fail
  rw [← HW0.out]
  refine (specCurKnown_any n _).mono ?_
  rintro e w1 ⟨rfl, b1⟩
  have bb1 := Below.next bb0 b1
  replace ko := ko.below b1
  by_cases hk : knownC n = true
  · rw [hk]
    have HV := Lib.hid (show unitC n = (tenS (placesC n), [1]) by unfold unitC; rw [if_pos hk])
    clear hk
    go_wp2_with fail
    refine (specCurPlaces_any n _).mono ?_
    rintro e w2 ⟨rfl, b2⟩
    have bb2 := Below.next bb1 b2
    replace ko := ko.below b2
    generalize placesC n = k at *
    go_wp2_with fail
    refine (l07Ten_any k _).mono ?_
    rintro e w3 ⟨us, Ss, rfl, os, ls, b3⟩
    obtain ⟨As, cs, rfl⟩ := ownS_form os.here
    have bb3 := Below.next bb2 b3
    replace ko := ko.below b3
    have al := below_al (Below.refl w3.heap.size w3) (.cells #[.int .i64 1] 3)
    have ob := at_ints_mem os (fun w' h => ownS_open h)
    have z1 := b1.size
    have z2 := b2.size
    have hz := HKO.out
    have oq : At (partsB (.slice As (tenS k).2.length cs) (.slice (some ⟨w3.heap.size, 0, none⟩) 1 1)) (OwnQ (.agg #[.bool (tenS k).1, .slice As (tenS k).2.length cs, .slice (some ⟨w3.heap.size, 0, none⟩) 1 1]) (tenS k, [1])) (w3.alloc (.cells #[.int .i64 1] 3)) :=
      partsQ_at (x := (tenS k, [1])) (B := 0) (C := 0) (own_below (ownS_open os.here) al) ⟨rfl, .inr ⟨w3.heap.size, 1, #[.int .i64 1], rfl, Nat.zero_le _, heap_alloc_new w3 _, Nat.le_refl _, by decide, rfl, rfl⟩⟩
        (fun g hg e => by have h1 := (ls g (ob g hg)).2; have h2 := Option.some.inj (show some w3.heap.size = some g from e); omega)
    have hin : ∀ i ∈ partsB (.slice As (tenS k).2.length cs) (.slice (some ⟨w3.heap.size, 0, none⟩) 1 1), W0.heap.size ≤ i := fun i hi => by
      rcases List.mem_append.1 hi with hi | hi
      · have := (ls i (ob i (by simpa using hi))).1; omega
      · have h2 : i = w3.heap.size := by simpa [Value.ownBlock] using hi
        have := b3.size; omega
    have HW := Lib.hid (newV_chg (φ := fun v => OwnQ v (tenS k, [1])) (T := [w.heap.size]) oq (fun i hi hm => by have := hin i hi; simp at hm; omega) (fun i hi => by simp at hi; omega) (fun i hi => by have := hin i hi; have := bb0.size; omega) (Below.next bb3 al))
    have ko2 := ko.below al
    have cz0 := ko2.here.cell 0 _ rfl
    have cz1 := ko2.here.cell 1 _ rfl
    have cz2 := ko2.here.cell 2 _ rfl
    have fz0 := Lib.frozen_of_heap ko2.here 0
    have fz1 := Lib.frozen_of_heap ko2.here 1
    have fz2 := Lib.frozen_of_heap ko2.here 2
    clear ko ko2 os oq hin ob al bb3 b3
    go_wp2
    refine bodyPost_ret (v := .agg #[.bool (tenS k).1, .slice As (tenS k).2.length cs, .slice (some ⟨w3.heap.size, 0, none⟩) 1 1]) (by simp [results, Tryd.results13, go_sem, cz0, cz1, cz2]) rfl ?_
    rw [HV.out]
    refine HW.out _ ?_
    repeat (first | exact Chg.refl _ _ | refine Chg.setCell ?_ (by simp) _)
  · have hk' : knownC n = false := by simpa using hk
    rw [hk']
    have HV := Lib.hid (show unitC n = zeroQ by unfold unitC; rw [if_neg hk])
    clear hk hk'
    have cz0 := ko.here.cell 0 _ rfl
    have cz1 := ko.here.cell 1 _ rfl
    have cz2 := ko.here.cell 2 _ rfl
    have fz0 := Lib.frozen_of_heap ko.here 0
    have fz1 := Lib.frozen_of_heap ko.here 1
    have fz2 := Lib.frozen_of_heap ko.here 2
    have HW := Lib.hid (newV_chg (φ := fun v => OwnQ v zeroQ) (v := .agg #[.bool false, .slice none 0 0, .slice none 0 0]) (T := [w.heap.size]) (S := []) ⟨⟨_, _, rfl, World.ownsRow_nil _ _ _ _, World.ownsRow_nil _ _ _ _, fun g hg => by cases hg⟩, fun _ hg => absurd hg List.not_mem_nil, fun w' _ => ⟨_, _, rfl, World.ownsRow_nil _ _ _ _, World.ownsRow_nil _ _ _ _, fun g hg => by cases hg⟩⟩ (fun i hi => absurd hi List.not_mem_nil) (fun i hi => by simp at hi; omega) (fun i hi => absurd hi List.not_mem_nil) bb1)
    clear ko
    go_wp2
    refine bodyPost_ret (v := .agg #[.bool false, .slice none 0 0, .slice none 0 0]) (by simp [results, Tryd.results13, go_sem, cz0, cz1, cz2]) rfl ?_
    rw [HV.out]
    refine HW.out _ ?_
    repeat (first | exact Chg.refl _ _ | refine Chg.setCell ?_ (by simp) _)
end Go.Proofs.YtgejjiiaimddaaaDoor
