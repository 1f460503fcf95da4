/-
  Chapter 12 of package spec: Exact.
-/
import Derived.Test.YtehkknphcflofaaGreatDoorConvUnitSJ
import Derived.Test.YtehkknphcflofaaGreatDoorJU10
namespace Go.Proofs.YtehkknphcflofaaGreatDoor
open Go.RowKit

set_option maxHeartbeats 4000000 in
set_option maxRecDepth 100000 in
theorem specExact_any (v vm : Value) (t : TI) (m : MI) (q : ByteArray) (w : World) (hl : t.2.length ≤ 1099511627776) (hx : ∀ x ∈ t.2, x.2.2.1.2.length ≤ 1048576) (hzm : szS m.2 ≤ 1048576) (h : OwnTR w v t) (hm : OwnM vm m w) :
    Calls Tryz.prog 55 #[v, vm, .string q] w (PostQb (exactR t m q).1 (exactR t m q).2 w) := by
  obtain ⟨A, c, rfl, hr⟩ := ownTR_form h
  have HR := Lib.hid (show ∀ W, Below w.heap.size w W → OwnER W (.slice A t.2.length c) t.2 from fun W h => hr.below h)
  have HTR := Lib.hid (show ∀ W, Below w.heap.size w W → OwnTR W (.agg #[.string t.1, .slice A t.2.length c]) t from fun W h => ⟨_, rfl, hr.below h⟩)
  clear h hr
  have Hm := Lib.hid hm
  obtain ⟨Am, cm, rfl⟩ := ownM_form hm
  have OMm := Lib.hid (show ∀ W, Below w.heap.size w W → OwnM (.agg #[.string m.1, .bool m.2.1, .slice Am m.2.2.length cm]) m W from fun W hb => OwnM.below Hm.out hb)
  have OIm := Lib.hid (show ∀ W, Below w.heap.size w W → OwnI (.slice Am m.2.2.length cm) m.2.2 W from fun W hb => ownM_open (OMm.out W hb))
  have OSm := Lib.hid (show ∀ W, Below w.heap.size w W → OwnS (.agg #[.bool m.2.1, .slice Am m.2.2.length cm]) m.2 W from fun W hb => OwnS.mk (OIm.out W hb))
  clear hm
  have bb0 : Below w.heap.size w (((w.alloc (.cells #[.string t.1, .slice A t.2.length c] 25)).alloc (.cells #[.string m.1, .bool m.2.1, .slice Am m.2.2.length cm] 32)).alloc (.cells #[.bool false, .slice none 0 0, .slice none 0 0] 36)) := below_al (below_al (below_al (Below.refl _ _) _) _) _
  have kt := (box_new w #[.string t.1, .slice A t.2.length c] 25).below (below_al (below_al (Below.refl _ _) (.cells #[.string m.1, .bool m.2.1, .slice Am m.2.2.length cm] 32)) (.cells #[.bool false, .slice none 0 0, .slice none 0 0] 36))
  have km := (box_new (w.alloc (.cells #[.string t.1, .slice A t.2.length c] 25)) #[.string m.1, .bool m.2.1, .slice Am m.2.2.length cm] 32).below (below_al (Below.refl _ _) (.cells #[.bool false, .slice none 0 0, .slice none 0 0] 36))
  rw [show (w.alloc (.cells #[.string t.1, .slice A t.2.length c] 25)).heap.size = w.heap.size + 1 by simp] at km
  have ko := (box_new ((w.alloc (.cells #[.string t.1, .slice A t.2.length c] 25)).alloc (.cells #[.string m.1, .bool m.2.1, .slice Am m.2.2.length cm] 32)) #[.bool false, .slice none 0 0, .slice none 0 0] 36)
  rw [show ((w.alloc (.cells #[.string t.1, .slice A t.2.length c] 25)).alloc (.cells #[.string m.1, .bool m.2.1, .slice Am m.2.2.length cm] 32)).heap.size = w.heap.size + 1 + 1 by simp] at ko
  have hlm : m.2.2.length ≤ 1048576 := by unfold szS szI at hzm; omega
  obtain ⟨⟨X, x⟩, hHX⟩ : ∃ r, unitR t m.1 q = r := ⟨_, rfl⟩
  have HX := Lib.hid hHX
  obtain ⟨⟨Y, y⟩, hHY⟩ : ∃ r, exactR t m q = r := ⟨_, rfl⟩
  have HY := Lib.hid hHY
  have hsX : szQ X ≤ 1048576 := by have := unitR_sz t m.1 q; rw [hHX] at this; exact this
  have hsM := ratM_szC m
  have EV := Lib.hid (show mulQ (ratM m) X = (Y, y) by rw [← hHY, ← exact_impl, hHX])
  have EN := Lib.hid (show x = false → (Y, y) = (zeroQ, false) from fun h => by rw [← hHY]; unfold exactR; rw [if_neg (fun hh => by have := hh.1; rw [hHX, h] at this; cases this)])
  have EM := Lib.hid (show okM m = false → (Y, y) = (zeroQ, false) from fun h => by rw [← hHY]; unfold exactR; rw [if_neg (fun hh => by have := hh.2; rw [h] at this; cases this)])
  rw [hHY]
  clear hHX hHY
  go_enter Tryz.func55, Tryz.ntmps55
  have kt_c0 := kt.here.cell 0 _ rfl
  have kt_c1 := kt.here.cell 1 _ rfl
  have km_c0 := km.here.cell 0 _ rfl
  have km_c1 := km.here.cell 1 _ rfl
  have km_c2 := km.here.cell 2 _ rfl
  go_wp2_with fail
  clear kt_c0 kt_c1 km_c0 km_c1 km_c2
  refine ((specUnitRate_any _ t m.1 q _ hl hx (HTR.out _ bb0)).mono fun _ _ h => postQb_isC HX.out h).mono ?_
  rintro e w1 ⟨u1, S1, rfl, o1, l1, b1⟩
  obtain ⟨A1, c1, B1, d1, rfl⟩ := ownQ_form o1.here
  have hz1 : w.heap.size + 3 ≤ w1.heap.size := by have := b1.size; (try simp at this); omega
  have bb1 := Below.next bb0 b1
  replace kt := kt.below b1
  replace km := km.below b1
  replace ko := ko.below b1
  have kx := box_new (w1) #[.bool X.1.1, .slice A1 X.1.2.length c1, .slice B1 X.2.length d1] 36
  have alx := below_al (Below.refl (w1).heap.size (w1)) (.cells #[.bool X.1.1, .slice A1 X.1.2.length c1, .slice B1 X.2.length d1] 36)
  have bbx := Below.next bb1 alx
  replace kt := kt.below alx
  replace km := km.below alx
  replace ko := ko.below alx
  replace o1 := o1.below alx
  clear kt
  cases x with
  | false =>
    obtain ⟨rfl, rfl⟩ : Y = zeroQ ∧ y = false := by have h := EN.out rfl; injection h with h1 h2; exact ⟨h1, h2⟩
    have HW := Lib.hid (newQb_zeroC (T := [w.heap.size + 1 + 1]) (fun i hi => by simp at hi; omega) bbx)
    have cz0 := ko.here.cell 0 _ rfl
    have fz0 := Lib.frozen_of_heap ko.here 0
    have cz1 := ko.here.cell 1 _ rfl
    have fz1 := Lib.frozen_of_heap ko.here 1
    have cz2 := ko.here.cell 2 _ rfl
    have fz2 := Lib.frozen_of_heap ko.here 2
    clear ko o1 l1 kx km
    go_wp2
    refine bodyPost_ret (v := .tuple #[.agg #[.bool false, .slice none 0 0, .slice none 0 0], .bool false]) (by simp [results, Tryz.results55, go_sem, cz0, cz1, cz2]) rfl ?_
    refine HW.out _ ?_
    repeat (first | with_reducible exact Chg.refl _ _ | with_reducible refine Chg.setCell ?_ (by simp) _ | with_reducible refine Chg.drew1 ?_ | with_reducible refine Chg.trans ?_ (Chg.of_below (below_al (Below.refl _ _) _)))
  | true =>
    have km_c0 := km.here.cell 0 _ rfl
    have km_c1 := km.here.cell 1 _ rfl
    have km_c2 := km.here.cell 2 _ rfl
    go_wp2_with fail
    clear km_c0 km_c1 km_c2
    refine (specMoneyOk_any _ m _ hlm (OMm.out _ bbx)).mono ?_
    rintro e w2 ⟨rfl, b2⟩
    have hz2 : w.heap.size + 3 ≤ w2.heap.size := by have := b2.size; (try simp at this); omega
    have bb2 := Below.next bbx b2
    replace km := km.below b2
    replace ko := ko.below b2
    replace o1 := o1.below b2
    replace kx := kx.below b2
    obtain ⟨ok, hok⟩ : ∃ b, okM m = b := ⟨_, rfl⟩
    rw [hok]
    have HOK := Lib.hid hok
    clear hok
    cases ok with
    | false =>
      obtain ⟨rfl, rfl⟩ : Y = zeroQ ∧ y = false := by have h := EM.out HOK.out; injection h with h1 h2; exact ⟨h1, h2⟩
      have HW := Lib.hid (newQb_zeroC (T := [w.heap.size + 1 + 1]) (fun i hi => by simp at hi; omega) bb2)
      have cz0 := ko.here.cell 0 _ rfl
      have fz0 := Lib.frozen_of_heap ko.here 0
      have cz1 := ko.here.cell 1 _ rfl
      have fz1 := Lib.frozen_of_heap ko.here 1
      have cz2 := ko.here.cell 2 _ rfl
      have fz2 := Lib.frozen_of_heap ko.here 2
      clear ko o1 l1 kx km
      go_wp2
      refine bodyPost_ret (v := .tuple #[.agg #[.bool false, .slice none 0 0, .slice none 0 0], .bool false]) (by simp [results, Tryz.results55, go_sem, cz0, cz1, cz2]) rfl ?_
      refine HW.out _ ?_
      repeat (first | with_reducible exact Chg.refl _ _ | with_reducible refine Chg.setCell ?_ (by simp) _ | with_reducible refine Chg.drew1 ?_ | with_reducible refine Chg.trans ?_ (Chg.of_below (below_al (Below.refl _ _) _)))
    | true =>
      have km_c0 := km.here.cell 0 _ rfl
      have km_c1 := km.here.cell 1 _ rfl
      have km_c2 := km.here.cell 2 _ rfl
      have kx_c0 := kx.here.cell 0 _ rfl
      have kx_c1 := kx.here.cell 1 _ rfl
      have kx_c2 := kx.here.cell 2 _ rfl
      go_upto_region 4 with fail
      have hz2b := hz2
      have HC0 := Lib.hid (show Chg [w.heap.size + 1 + 1] w2 w2.drew from (Chg.refl _ _).drew1)
      have HCr := Lib.hid (show Chg [w.heap.size + 1 + 1] w2 w2 from Chg.refl _ _)
      have KL := Lib.hid (show ∀ W, Chg [w.heap.size + 1 + 1] w2 W → W.cell? ⟨w.heap.size + 1, 0, none⟩ = some (.string m.1) ∧ W.cell? ⟨w.heap.size + 1, 1, none⟩ = some (.bool m.2.1) ∧ W.cell? ⟨w.heap.size + 1, 2, none⟩ = some (.slice Am m.2.2.length cm) ∧ W.cell? ⟨w1.heap.size, 0, none⟩ = some (.bool X.1.1) ∧ W.cell? ⟨w1.heap.size, 1, none⟩ = some (.slice A1 X.1.2.length c1) ∧ W.cell? ⟨w1.heap.size, 2, none⟩ = some (.slice B1 X.2.length d1) ∧ Hid (Chg [w.heap.size + 1 + 1] w2 W) from fun W hc => ⟨(km.chg hc (fun i hi hm => by simp at hi hm; omega)).here.cell 0 _ rfl, (km.chg hc (fun i hi hm => by simp at hi hm; omega)).here.cell 1 _ rfl, (km.chg hc (fun i hi hm => by simp at hi hm; omega)).here.cell 2 _ rfl, (kx.chg hc (fun i hi hm => by simp at hi hm; omega)).here.cell 0 _ rfl, (kx.chg hc (fun i hi hm => by simp at hi hm; omega)).here.cell 1 _ rfl, (kx.chg hc (fun i hi hm => by simp at hi hm; omega)).here.cell 2 _ rfl, Lib.hid hc⟩)
      have BBF := Lib.hid (show ∀ W, Chg [w.heap.size + 1 + 1] w2 W → Below w.heap.size w W from fun W hc => below_chg bb2 hc bb2.size (fun i hi => by simp at hi; omega))
      clear km_c0 km_c1 km_c2 kx_c0 kx_c1 kx_c2
      go_region_held3 (fun W => W.cell? ⟨w.heap.size + 1, 0, none⟩ = some (.string m.1) ∧ W.cell? ⟨w.heap.size + 1, 1, none⟩ = some (.bool m.2.1) ∧ W.cell? ⟨w.heap.size + 1, 2, none⟩ = some (.slice Am m.2.2.length cm) ∧ W.cell? ⟨w1.heap.size, 0, none⟩ = some (.bool X.1.1) ∧ W.cell? ⟨w1.heap.size, 1, none⟩ = some (.slice A1 X.1.2.length c1) ∧ W.cell? ⟨w1.heap.size, 2, none⟩ = some (.slice B1 X.2.length d1) ∧ Hid (Chg [w.heap.size + 1 + 1] w2 W))
        ((refine KL.out _ ?_; (first | exact HC4.out | exact HC3.out | exact HCr.out | exact HC0.out | exact HC4.out.drew1 | exact HC3.out.drew1 | exact HCr.out.drew1 | exact HC0.out.drew1 | exact HC4.out.trans (Chg.of_below (below_al (Below.refl _ _) _)) | exact HC3.out.trans (Chg.of_below (below_al (Below.refl _ _) _)) | exact HCr.out.trans (Chg.of_below (below_al (Below.refl _ _) _)) | exact HC0.out.trans (Chg.of_below (below_al (Below.refl _ _) _)) | exact (Chg.setCell HC4.out (by simp) _) | exact (Chg.setCell (Chg.setCell HC4.out (by simp) _) (by simp) _) | exact (Chg.setCell (Chg.setCell (Chg.setCell HC4.out (by simp) _) (by simp) _) (by simp) _) | fail)))
        (first
          | (go_at_call 129; (have hBB := (‹_ ∧ _ ∧ _ ∧ _ ∧ _ ∧ _ ∧ Hid (Chg [w.heap.size + 1 + 1] w2 _)›).2.2.2.2.2.2); (with_reducible refine (specMoneyRat_any _ m _ hzm (OMm.out _ (BBF.out _ hBB.out))).mono ?_); rintro e w3 ⟨u7, S7, rfl, o7, l7, b3⟩; have HC3 := Lib.hid (hBB.out.trans (Chg.of_below b3)); (have ko_3 := At.below (by first | exact ko | exact At.below ko (below_al (Below.refl _ _) _) | exact At.below (At.below ko (below_al (Below.refl _ _) _)) (below_al (Below.refl _ _) _) | exact At.move ko (fun _ _ => rfl) (Nat.le_refl _) | exact At.below (At.move (w' := w2.drew) ko (fun _ _ => rfl) (Nat.le_refl _)) (below_al (Below.refl _ _) _)) b3); (have o1_3 := At.below (by first | exact o1 | exact At.below o1 (below_al (Below.refl _ _) _) | exact At.below (At.below o1 (below_al (Below.refl _ _) _)) (below_al (Below.refl _ _) _) | exact At.move o1 (fun _ _ => rfl) (Nat.le_refl _) | exact At.below (At.move (w' := w2.drew) o1 (fun _ _ => rfl) (Nat.le_refl _)) (below_al (Below.refl _ _) _)) b3); obtain ⟨A7, c7, B7, d7, rfl⟩ := ownQ_form o7.here; have HBZ3 := Lib.hid hBB.out.size; clear hBB)
          | (go_at_call 117; (have hBB := (‹_ ∧ _ ∧ _ ∧ _ ∧ _ ∧ _ ∧ Hid (Chg [w.heap.size + 1 + 1] w2 _)›).2.2.2.2.2.2); (with_reducible refine ((specRatMul_any _ _ (ratM m) X _ hsM hsX (At.here (by first | exact o7 | exact At.below o7 (below_al (Below.refl _ _) _) | exact At.below (At.below o7 (below_al (Below.refl _ _) _)) (below_al (Below.refl _ _) _) | exact At.move o7 (fun _ _ => rfl) (Nat.le_refl _) | exact At.below (At.move (w' := w2.drew) o7 (fun _ _ => rfl) (Nat.le_refl _)) (below_al (Below.refl _ _) _))) (At.here (by first | exact o1_3 | exact At.below o1_3 (below_al (Below.refl _ _) _) | exact At.below (At.below o1_3 (below_al (Below.refl _ _) _)) (below_al (Below.refl _ _) _) | exact At.move o1_3 (fun _ _ => rfl) (Nat.le_refl _) | exact At.below (At.move (w' := w2.drew) o1_3 (fun _ _ => rfl) (Nat.le_refl _)) (below_al (Below.refl _ _) _)))).mono fun _ _ h => postQb_isC EV.out h).mono ?_); rintro e w4 ⟨u8, S8, rfl, o8, l8, b4⟩; have HC4 := Lib.hid (hBB.out.trans (Chg.of_below b4)); (have ko_4 := At.below (by first | exact ko_3 | exact At.below ko_3 (below_al (Below.refl _ _) _) | exact At.below (At.below ko_3 (below_al (Below.refl _ _) _)) (below_al (Below.refl _ _) _) | exact At.move ko_3 (fun _ _ => rfl) (Nat.le_refl _) | exact At.below (At.move (w' := w2.drew) ko_3 (fun _ _ => rfl) (Nat.le_refl _)) (below_al (Below.refl _ _) _)) b4); (have o1_4 := At.below (by first | exact o1_3 | exact At.below o1_3 (below_al (Below.refl _ _) _) | exact At.below (At.below o1_3 (below_al (Below.refl _ _) _)) (below_al (Below.refl _ _) _) | exact At.move o1_3 (fun _ _ => rfl) (Nat.le_refl _) | exact At.below (At.move (w' := w2.drew) o1_3 (fun _ _ => rfl) (Nat.le_refl _)) (below_al (Below.refl _ _) _)) b4); (have o7_4 := At.below (by first | exact o7 | exact At.below o7 (below_al (Below.refl _ _) _) | exact At.below (At.below o7 (below_al (Below.refl _ _) _)) (below_al (Below.refl _ _) _) | exact At.move o7 (fun _ _ => rfl) (Nat.le_refl _) | exact At.below (At.move (w' := w2.drew) o7 (fun _ _ => rfl) (Nat.le_refl _)) (below_al (Below.refl _ _) _)) b4); obtain ⟨A8, c8, B8, d8, rfl⟩ := ownQ_form o8.here; have cz0 := ko_4.here.cell 0 _ rfl; have fz0 := Lib.frozen_of_heap ko_4.here 0; have cz1 := ko_4.here.cell 1 _ rfl; have fz1 := Lib.frozen_of_heap ko_4.here 1; have cz2 := ko_4.here.cell 2 _ rfl; have fz2 := Lib.frozen_of_heap ko_4.here 2; have HBZ4 := Lib.hid hBB.out.size; clear hBB))
      all_goals
        have bb4 := BBF.out _ HC4.out
        replace km := km.chg HC4.out (fun i hi hm => by simp at hi hm; omega)
        replace kx := kx.chg HC4.out (fun i hi hm => by simp at hi hm; omega)
        replace ko := ko_4
        replace o1 := o1_4
        have o7 := o7_4
        have HW := Lib.hid (newQb_at (r := w.heap.size + 1 + 1) (b := y) o8 l8 (by have := HBZ4.out; omega) (by omega) bb4)
        clear o8 o7 o1 l8 l7 km kx ko
        go_wp2
        refine bodyPost_ret (v := .tuple #[.agg #[.bool Y.1.1, .slice A8 Y.1.2.length c8, .slice B8 Y.2.length d8], .bool y]) (by simp [results, Tryz.results55, go_sem, cz0, cz1, cz2]) rfl ?_
        exact HW.out
end Go.Proofs.YtehkknphcflofaaGreatDoor
