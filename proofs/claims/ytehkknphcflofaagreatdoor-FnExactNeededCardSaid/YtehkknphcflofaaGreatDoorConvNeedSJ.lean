/-
  Chapter 12 of package spec: Needed.
-/
import Derived.Test.YtehkknphcflofaaGreatDoorConvUnitSJ
import Derived.Test.YtehkknphcflofaaGreatDoorJU10
namespace Go.Proofs.YtehkknphcflofaaGreatDoor
open Go.RowKit

set_option maxHeartbeats 4000000 in
set_option maxRecDepth 100000 in
theorem specNeeded_any (v vm : Value) (t : TI) (m : MI) (q : ByteArray) (w : World) (hl : t.2.length ≤ 1099511627776) (hx : ∀ x ∈ t.2, x.2.2.1.2.length ≤ 1048576) (hzm : szS m.2 ≤ 1048576) (h : OwnTR w v t) (hm : OwnM vm m w) :
    Calls Tryz.prog 61 #[v, vm, .string q] w (PostMb (needR t m q).1 (needR t m q).2 w) := by
  obtain ⟨A, c, rfl, hr⟩ := ownTR_form h
  have HR := Lib.hid (show ∀ W, Below w.heap.size w W → OwnER W (.slice A t.2.length c) t.2 from fun W h => hr.below h)
  have HTR := Lib.hid (show ∀ W, Below w.heap.size w W → OwnTR W (.agg #[.string t.1, .slice A t.2.length c]) t from fun W h => ⟨_, rfl, hr.below h⟩)
  clear h hr
  have Hm := Lib.hid hm
  obtain ⟨Am, cm, rfl⟩ := ownM_form hm
  have OMm := Lib.hid (show ∀ W, Below w.heap.size w W → OwnM (.agg #[.string m.1, .bool m.2.1, .slice Am m.2.2.length cm]) m W from fun W hb => OwnM.below Hm.out hb)
  have OIm := Lib.hid (show ∀ W, Below w.heap.size w W → OwnI (.slice Am m.2.2.length cm) m.2.2 W from fun W hb => ownM_open (OMm.out W hb))
  have OSm := Lib.hid (show ∀ W, Below w.heap.size w W → OwnS (.agg #[.bool m.2.1, .slice Am m.2.2.length cm]) m.2 W from fun W hb => OwnS.mk (OIm.out W hb))
  clear hm
  have bb0 : Below w.heap.size w (((w.alloc (.cells #[.string t.1, .slice A t.2.length c] 25)).alloc (.cells #[.string m.1, .bool m.2.1, .slice Am m.2.2.length cm] 32)).alloc (.cells #[.string ⟨#[]⟩, .bool false, .slice none 0 0] 32)) := below_al (below_al (below_al (Below.refl _ _) _) _) _
  have kt := (box_new w #[.string t.1, .slice A t.2.length c] 25).below (below_al (below_al (Below.refl _ _) (.cells #[.string m.1, .bool m.2.1, .slice Am m.2.2.length cm] 32)) (.cells #[.string ⟨#[]⟩, .bool false, .slice none 0 0] 32))
  have km := (box_new (w.alloc (.cells #[.string t.1, .slice A t.2.length c] 25)) #[.string m.1, .bool m.2.1, .slice Am m.2.2.length cm] 32).below (below_al (Below.refl _ _) (.cells #[.string ⟨#[]⟩, .bool false, .slice none 0 0] 32))
  rw [show (w.alloc (.cells #[.string t.1, .slice A t.2.length c] 25)).heap.size = w.heap.size + 1 by simp] at km
  have ko := (box_new ((w.alloc (.cells #[.string t.1, .slice A t.2.length c] 25)).alloc (.cells #[.string m.1, .bool m.2.1, .slice Am m.2.2.length cm] 32)) #[.string ⟨#[]⟩, .bool false, .slice none 0 0] 32)
  rw [show ((w.alloc (.cells #[.string t.1, .slice A t.2.length c] 25)).alloc (.cells #[.string m.1, .bool m.2.1, .slice Am m.2.2.length cm] 32)).heap.size = w.heap.size + 1 + 1 by simp] at ko
  have hlm : m.2.2.length ≤ 1048576 := by unfold szS szI at hzm; omega
  obtain ⟨⟨X, x⟩, hHX⟩ : ∃ r, unitR t q m.1 = r := ⟨_, rfl⟩
  have HX := Lib.hid hHX
  obtain ⟨⟨Y, y⟩, hHY⟩ : ∃ r, costR t m q = r := ⟨_, rfl⟩
  have HY := Lib.hid hHY
  obtain ⟨⟨R, r⟩, hHR2⟩ : ∃ r, needR t m q = r := ⟨_, rfl⟩
  have HR2 := Lib.hid hHR2
  have hsX : szQ X ≤ 1048576 := by have := unitR_sz t q m.1; rw [hHX] at this; exact this
  have hsM := ratM_szC m
  have EV := Lib.hid (show divQ (ratM m) X = (Y, y) by rw [← hHY, ← cost_impl, hHX])
  have EN := Lib.hid (show x = false → (Y, y) = (zeroQ, false) from fun h => by rw [← hHY]; unfold costR; rw [if_neg (fun hh => by have := hh.1; rw [hHX, h] at this; cases this)])
  have EM := Lib.hid (show okM m = false → (Y, y) = (zeroQ, false) from fun h => by rw [← hHY]; unfold costR; rw [if_neg (fun hh => by have := hh.2; rw [h] at this; cases this)])
  have hsY : szQ Y ≤ 1048576 := by have := costR_sz t m q; rw [hHY] at this; exact this
  have ER := Lib.hid (show rmM q Y 3 = R ∧ rmB q Y 3 = r from by have h := hHR2; unfold needR at h; rw [hHY] at h; injection h with h1 h2; exact ⟨h1, h2⟩)
  have EZ := Lib.hid (show (Y, y) = (zeroQ, false) → (R, r) = (zeroM, false) from fun h => by injection h with h1 _; rw [← hHR2]; unfold needR; rw [hHY]; dsimp only; rw [h1, rmB_zero, rmM_zero])
  have EY := Lib.hid (show y = false → (Y, y) = (zeroQ, false) from fun h => by have := costR_no (t := t) (m := m) (c := q) (fun hh => by rw [hHY, h] at hh; cases hh); rw [hHY] at this; rw [h]; exact Prod.ext this rfl)
  rw [hHR2]
  clear hHX hHY hHR2
  go_enter Tryz.func61, Tryz.ntmps61
  have kt_c0 := kt.here.cell 0 _ rfl
  have kt_c1 := kt.here.cell 1 _ rfl
  have km_c0 := km.here.cell 0 _ rfl
  have km_c1 := km.here.cell 1 _ rfl
  have km_c2 := km.here.cell 2 _ rfl
  go_wp2_with fail
  clear kt_c0 kt_c1 km_c0 km_c1 km_c2
  refine ((specUnitRate_any _ t q m.1 _ hl hx (HTR.out _ bb0)).mono fun _ _ h => postQb_isC HX.out h).mono ?_
  rintro e w1 ⟨u1, S1, rfl, o1, l1, b1⟩
  obtain ⟨A1, c1, B1, d1, rfl⟩ := ownQ_form o1.here
  have hz1 : w.heap.size + 3 ≤ w1.heap.size := by have := b1.size; (try simp at this); omega
  have bb1 := Below.next bb0 b1
  replace kt := kt.below b1
  replace km := km.below b1
  replace ko := ko.below b1
  have kx := box_new (w1) #[.bool X.1.1, .slice A1 X.1.2.length c1, .slice B1 X.2.length d1] 36
  have alx := below_al (Below.refl (w1).heap.size (w1)) (.cells #[.bool X.1.1, .slice A1 X.1.2.length c1, .slice B1 X.2.length d1] 36)
  have bbx := Below.next bb1 alx
  replace kt := kt.below alx
  replace km := km.below alx
  replace ko := ko.below alx
  replace o1 := o1.below alx
  clear kt
  cases x with
  | false =>
    obtain ⟨rfl, rfl⟩ : R = zeroM ∧ r = false := by have h := EZ.out (EN.out rfl); injection h with h1 h2; exact ⟨h1, h2⟩
    have HW := Lib.hid (newMb_zeroC (T := [w.heap.size + 1 + 1]) (fun i hi => by simp at hi; omega) bbx)
    have cz0 := ko.here.cell 0 _ rfl
    have fz0 := Lib.frozen_of_heap ko.here 0
    have cz1 := ko.here.cell 1 _ rfl
    have fz1 := Lib.frozen_of_heap ko.here 1
    have cz2 := ko.here.cell 2 _ rfl
    have fz2 := Lib.frozen_of_heap ko.here 2
    clear ko o1 l1 kx km
    go_wp2
    refine bodyPost_ret (v := .tuple #[.agg #[.string ⟨#[]⟩, .bool false, .slice none 0 0], .bool false]) (by simp [results, Tryz.results61, go_sem, cz0, cz1, cz2]) rfl ?_
    refine HW.out _ ?_
    repeat (first | with_reducible exact Chg.refl _ _ | with_reducible refine Chg.setCell ?_ (by simp) _ | with_reducible refine Chg.drew1 ?_ | with_reducible refine Chg.trans ?_ (Chg.of_below (below_al (Below.refl _ _) _)))
  | true =>
    have km_c0 := km.here.cell 0 _ rfl
    have km_c1 := km.here.cell 1 _ rfl
    have km_c2 := km.here.cell 2 _ rfl
    go_wp2_with fail
    clear km_c0 km_c1 km_c2
    refine (specMoneyOk_any _ m _ hlm (OMm.out _ bbx)).mono ?_
    rintro e w2 ⟨rfl, b2⟩
    have hz2 : w.heap.size + 3 ≤ w2.heap.size := by have := b2.size; (try simp at this); omega
    have bb2 := Below.next bbx b2
    replace km := km.below b2
    replace ko := ko.below b2
    replace o1 := o1.below b2
    replace kx := kx.below b2
    obtain ⟨ok, hok⟩ : ∃ b, okM m = b := ⟨_, rfl⟩
    rw [hok]
    have HOK := Lib.hid hok
    clear hok
    cases ok with
    | false =>
      obtain ⟨rfl, rfl⟩ : R = zeroM ∧ r = false := by have h := EZ.out (EM.out HOK.out); injection h with h1 h2; exact ⟨h1, h2⟩
      have HW := Lib.hid (newMb_zeroC (T := [w.heap.size + 1 + 1]) (fun i hi => by simp at hi; omega) bb2)
      have cz0 := ko.here.cell 0 _ rfl
      have fz0 := Lib.frozen_of_heap ko.here 0
      have cz1 := ko.here.cell 1 _ rfl
      have fz1 := Lib.frozen_of_heap ko.here 1
      have cz2 := ko.here.cell 2 _ rfl
      have fz2 := Lib.frozen_of_heap ko.here 2
      clear ko o1 l1 kx km
      go_wp2
      refine bodyPost_ret (v := .tuple #[.agg #[.string ⟨#[]⟩, .bool false, .slice none 0 0], .bool false]) (by simp [results, Tryz.results61, go_sem, cz0, cz1, cz2]) rfl ?_
      refine HW.out _ ?_
      repeat (first | with_reducible exact Chg.refl _ _ | with_reducible refine Chg.setCell ?_ (by simp) _ | with_reducible refine Chg.drew1 ?_ | with_reducible refine Chg.trans ?_ (Chg.of_below (below_al (Below.refl _ _) _)))
    | true =>
      have km_c0 := km.here.cell 0 _ rfl
      have km_c1 := km.here.cell 1 _ rfl
      have km_c2 := km.here.cell 2 _ rfl
      have kx_c0 := kx.here.cell 0 _ rfl
      have kx_c1 := kx.here.cell 1 _ rfl
      have kx_c2 := kx.here.cell 2 _ rfl
      go_upto_region 4 with fail
      have hz2b := hz2
      clear km_c0 km_c1 km_c2 kx_c0 kx_c1 kx_c2
      have km_c0 := km.here.cell 0 _ rfl
      have km_c1 := km.here.cell 1 _ rfl
      have km_c2 := km.here.cell 2 _ rfl
      have kx_c0 := kx.here.cell 0 _ rfl
      have kx_c1 := kx.here.cell 1 _ rfl
      have kx_c2 := kx.here.cell 2 _ rfl
      go_cut [10, 11] (fun s t wx => NewLocV 36 (fun v => OwnQ v Y) w2 s wx ∧ t = .bool y)
      case first =>
        have HC0 := Lib.hid (show Chg [] w2 w2.drew from (Chg.refl _ _).drew1)
        have HCr := Lib.hid (show Chg [] w2 w2 from Chg.refl _ _)
        have KL := Lib.hid (show ∀ W, Chg [] w2 W → W.cell? ⟨w.heap.size + 1, 0, none⟩ = some (.string m.1) ∧ W.cell? ⟨w.heap.size + 1, 1, none⟩ = some (.bool m.2.1) ∧ W.cell? ⟨w.heap.size + 1, 2, none⟩ = some (.slice Am m.2.2.length cm) ∧ W.cell? ⟨w1.heap.size, 0, none⟩ = some (.bool X.1.1) ∧ W.cell? ⟨w1.heap.size, 1, none⟩ = some (.slice A1 X.1.2.length c1) ∧ W.cell? ⟨w1.heap.size, 2, none⟩ = some (.slice B1 X.2.length d1) ∧ Hid (Chg [] w2 W) from fun W hc => ⟨(km.chg hc (fun i hi hm => by simp at hm)).here.cell 0 _ rfl, (km.chg hc (fun i hi hm => by simp at hm)).here.cell 1 _ rfl, (km.chg hc (fun i hi hm => by simp at hm)).here.cell 2 _ rfl, (kx.chg hc (fun i hi hm => by simp at hm)).here.cell 0 _ rfl, (kx.chg hc (fun i hi hm => by simp at hm)).here.cell 1 _ rfl, (kx.chg hc (fun i hi hm => by simp at hm)).here.cell 2 _ rfl, Lib.hid hc⟩)
        have BBF := Lib.hid (show ∀ W, Chg [] w2 W → Below w.heap.size w W from fun W hc => below_chg bb2 hc bb2.size (fun i hi => by simp at hi))
        clear km_c0 km_c1 km_c2 kx_c0 kx_c1 kx_c2
        go_region_held3 (fun W => W.cell? ⟨w.heap.size + 1, 0, none⟩ = some (.string m.1) ∧ W.cell? ⟨w.heap.size + 1, 1, none⟩ = some (.bool m.2.1) ∧ W.cell? ⟨w.heap.size + 1, 2, none⟩ = some (.slice Am m.2.2.length cm) ∧ W.cell? ⟨w1.heap.size, 0, none⟩ = some (.bool X.1.1) ∧ W.cell? ⟨w1.heap.size, 1, none⟩ = some (.slice A1 X.1.2.length c1) ∧ W.cell? ⟨w1.heap.size, 2, none⟩ = some (.slice B1 X.2.length d1) ∧ Hid (Chg [] w2 W))
          ((refine KL.out _ ?_; (first | exact HC4.out | exact HC3.out | exact HCr.out | exact HC0.out | exact HC4.out.drew1 | exact HC3.out.drew1 | exact HCr.out.drew1 | exact HC0.out.drew1 | exact HC4.out.trans (Chg.of_below (below_al (Below.refl _ _) _)) | exact HC3.out.trans (Chg.of_below (below_al (Below.refl _ _) _)) | exact HCr.out.trans (Chg.of_below (below_al (Below.refl _ _) _)) | exact HC0.out.trans (Chg.of_below (below_al (Below.refl _ _) _)) | exact (Chg.setNew HC4.out (by first | exact HC4.out.size | exact HC3.out.size | exact HCr.out.size | exact HC0.out.size) _) | exact (Chg.setNew (Chg.setNew HC4.out (by first | exact HC4.out.size | exact HC3.out.size | exact HCr.out.size | exact HC0.out.size) _) (by first | exact HC4.out.size | exact HC3.out.size | exact HCr.out.size | exact HC0.out.size) _) | exact (Chg.setNew (Chg.setNew (Chg.setNew HC4.out (by first | exact HC4.out.size | exact HC3.out.size | exact HCr.out.size | exact HC0.out.size) _) (by first | exact HC4.out.size | exact HC3.out.size | exact HCr.out.size | exact HC0.out.size) _) (by first | exact HC4.out.size | exact HC3.out.size | exact HCr.out.size | exact HC0.out.size) _) | fail)))
          (first
            | (go_at_call 129; (have hBB := (‹_ ∧ _ ∧ _ ∧ _ ∧ _ ∧ _ ∧ Hid (Chg [] w2 _)›).2.2.2.2.2.2); (with_reducible refine (specMoneyRat_any _ m _ hzm (OMm.out _ (BBF.out _ hBB.out))).mono ?_); rintro e w3 ⟨u7, S7, rfl, o7, l7, b3⟩; have HC3 := Lib.hid (hBB.out.trans (Chg.of_below b3)); (have o1_3 := At.below (by first | exact o1 | exact At.below o1 (below_al (Below.refl _ _) _) | exact At.below (At.below o1 (below_al (Below.refl _ _) _)) (below_al (Below.refl _ _) _) | exact At.move o1 (fun _ _ => rfl) (Nat.le_refl _) | exact At.below (At.move (w' := w2.drew) o1 (fun _ _ => rfl) (Nat.le_refl _)) (below_al (Below.refl _ _) _)) b3); obtain ⟨A7, c7, B7, d7, rfl⟩ := ownQ_form o7.here; (first | (have early3 : At [w2.heap.size] (BoxAt w2.heap.size #[.bool false, .slice none 0 0, .slice none 0 0] 36) w3 := At.below (box_new w2.drew _ _) b3) | (have early3 := At.below (box_new _ #[.bool false, .slice none 0 0, .slice none 0 0] 36) b3) | (have early3 := At.below early2 b3) | skip); have HBZ3 := Lib.hid hBB.out.size; clear hBB)
            | (go_at_call 115; (have hBB := (‹_ ∧ _ ∧ _ ∧ _ ∧ _ ∧ _ ∧ Hid (Chg [] w2 _)›).2.2.2.2.2.2); (with_reducible refine ((specRatDiv_any _ _ (ratM m) X _ hsM hsX (At.here (by first | exact o7 | exact At.below o7 (below_al (Below.refl _ _) _) | exact At.below (At.below o7 (below_al (Below.refl _ _) _)) (below_al (Below.refl _ _) _) | exact At.move o7 (fun _ _ => rfl) (Nat.le_refl _) | exact At.below (At.move (w' := w2.drew) o7 (fun _ _ => rfl) (Nat.le_refl _)) (below_al (Below.refl _ _) _))) (At.here (by first | exact o1_3 | exact At.below o1_3 (below_al (Below.refl _ _) _) | exact At.below (At.below o1_3 (below_al (Below.refl _ _) _)) (below_al (Below.refl _ _) _) | exact At.move o1_3 (fun _ _ => rfl) (Nat.le_refl _) | exact At.below (At.move (w' := w2.drew) o1_3 (fun _ _ => rfl) (Nat.le_refl _)) (below_al (Below.refl _ _) _)))).mono fun _ _ h => postQb_isC EV.out h).mono ?_); rintro e w4 ⟨u8, S8, rfl, o8, l8, b4⟩; have HC4 := Lib.hid (hBB.out.trans (Chg.of_below b4)); (have o1_4 := At.below (by first | exact o1_3 | exact At.below o1_3 (below_al (Below.refl _ _) _) | exact At.below (At.below o1_3 (below_al (Below.refl _ _) _)) (below_al (Below.refl _ _) _) | exact At.move o1_3 (fun _ _ => rfl) (Nat.le_refl _) | exact At.below (At.move (w' := w2.drew) o1_3 (fun _ _ => rfl) (Nat.le_refl _)) (below_al (Below.refl _ _) _)) b4); (have o7_4 := At.below (by first | exact o7 | exact At.below o7 (below_al (Below.refl _ _) _) | exact At.below (At.below o7 (below_al (Below.refl _ _) _)) (below_al (Below.refl _ _) _) | exact At.move o7 (fun _ _ => rfl) (Nat.le_refl _) | exact At.below (At.move (w' := w2.drew) o7 (fun _ _ => rfl) (Nat.le_refl _)) (below_al (Below.refl _ _) _)) b4); obtain ⟨A8, c8, B8, d8, rfl⟩ := ownQ_form o8.here; (first | have hbxg := At.below_lt (box_new _ #[.bool false, .slice none 0 0, .slice none 0 0] 36) b4 | have hbxg := At.below_lt early3 b4 | skip); (try (have hbxf := hbxg.1; have HGB := Lib.hid hbxg.2; clear hbxg)); (try (have cz0 := hbxf.here.cell 0 _ rfl; have fz0 := Lib.frozen_of_heap hbxf.here 0; have cz1 := hbxf.here.cell 1 _ rfl; have fz1 := Lib.frozen_of_heap hbxf.here 1; have cz2 := hbxf.here.cell 2 _ rfl; have fz2 := Lib.frozen_of_heap hbxf.here 2)); have HBZ4 := Lib.hid hBB.out.size; clear hBB))
        all_goals (go_wp2_with fail; go_meet; first | exact ⟨newLocV_last o8 l8 HBZ4.out (below_of_chg HC4.out), rfl⟩ | exact ⟨newLocV_early3 hbxf.here o8 l8 (by first | exact HC3.out.size | exact HCr.out.size | exact HC0.out.size) HGB.out (below_of_chg HC4.out), rfl⟩)
      rename World => w5
      obtain ⟨⟨gy, csy, Sy, rfl, ky, oy, ny, ly, b5⟩, rfl⟩ := hcut
      obtain ⟨Ay, cy, By, dy, ey⟩ := ownQ_form oy.here
      injection ey with ey
      subst ey
      have bb5 := Below.next bb2 b5
      replace km := km.below b5
      replace ko := ko.below b5
      replace o1 := o1.below b5
      replace kx := kx.below b5
      have hz5 : w.heap.size + 3 ≤ w5.heap.size := by have := b5.size; omega
      clear km o1 kx
      have ky_c0 := ky.here.cell 0 _ rfl
      have ky_c1 := ky.here.cell 1 _ rfl
      have ky_c2 := ky.here.cell 2 _ rfl
      go_wp2_with fail
      clear ky_c0 ky_c1 ky_c2
      refine ((specRatMoney_any q _ Y 3 _ hsY oy.here).mono fun _ _ h => postMQb_isC ER.out.1 ER.out.2 h).mono ?_
      rintro e w6 ⟨u9, x9, S9, T9, rfl, o9, q9, ap9, l9, k9, b6⟩
      obtain ⟨A9, c9, rfl⟩ := ownM_form o9.here
      obtain ⟨A0, c0, B0, d0, rfl⟩ := ownQ_form q9.here
      have hz6 : w.heap.size + 3 ≤ w6.heap.size := by have := b6.size; (try simp at this); omega
      have bb6 := Below.next bb5 b6
      replace ko := ko.below b6
      replace ky := ky.below b6
      replace oy := oy.below b6
      clear q9 ap9 k9
      have hlow : ∀ i ∈ S9, w.heap.size + 1 + 1 < i := fun i hi => by have := (l9 i hi).1; omega
      go_upto_region 6 with fail
      have al7 : Below w6.heap.size w6 ((w6.alloc (.cells #[.string R.1, .bool R.2.1, .slice A9 R.2.2.length c9] 32)).alloc (.cells #[.bool (rmQ q Y 3).1.1, .slice A0 (rmQ q Y 3).1.2.length c0, .slice B0 (rmQ q Y 3).2.length d0] 36)) := Below.next (below_al (Below.refl _ _) _) (below_al (Below.refl _ _) _)
      have kr := (box_new w6 #[.string R.1, .bool R.2.1, .slice A9 R.2.2.length c9] 32).below (below_al (Below.refl _ _) (.cells #[.bool (rmQ q Y 3).1.1, .slice A0 (rmQ q Y 3).1.2.length c0, .slice B0 (rmQ q Y 3).2.length d0] 36))
      have bb7 := Below.next bb6 al7
      replace ko := ko.below al7
      replace ky := ky.below al7
      replace oy := oy.below al7
      replace o9 := o9.below al7
      obtain ⟨w7, hw7⟩ : ∃ W, W = ((w6.alloc (.cells #[.string R.1, .bool R.2.1, .slice A9 R.2.2.length c9] 32)).alloc (.cells #[.bool (rmQ q Y 3).1.1, .slice A0 (rmQ q Y 3).1.2.length c0, .slice B0 (rmQ q Y 3).2.length d0] 36)) := ⟨_, rfl⟩
      rw [← hw7] at kr ko ky oy o9 bb7 ⊢
      clear hw7 al7
      cases y with
      | false =>
        have HF := Lib.hid (EZ.out (EY.out rfl))
        have h := HF.out
        injection h with h1 h2
        subst h1
        try subst h2
        clear HF
        have HW := Lib.hid (newMb_zeroC (T := [w.heap.size + 1 + 1]) (fun i hi => by simp at hi; omega) bb7)
        have cz0 := ko.here.cell 0 _ rfl
        have fz0 := Lib.frozen_of_heap ko.here 0
        have cz1 := ko.here.cell 1 _ rfl
        have fz1 := Lib.frozen_of_heap ko.here 1
        have cz2 := ko.here.cell 2 _ rfl
        have fz2 := Lib.frozen_of_heap ko.here 2
        clear ko o9 oy ky hlow l9 kr
        go_wp2
        refine bodyPost_ret (v := .tuple #[.agg #[.string ⟨#[]⟩, .bool false, .slice none 0 0], .bool false]) (by simp [results, Tryz.results61, go_sem, cz0, cz1, cz2]) rfl ?_
        refine HW.out _ ?_
        repeat (first | with_reducible exact Chg.refl _ _ | with_reducible refine Chg.setCell ?_ (by simp) _ | with_reducible refine Chg.drew1 ?_ | with_reducible refine Chg.trans ?_ (Chg.of_below (below_al (Below.refl _ _) _)))
      | true =>
        cases r with
        | false =>
          have HF := Lib.hid (show (R, false) = (zeroM, false) from Prod.ext (rm_no ER.out.1 ER.out.2) rfl)
          have h := HF.out
          injection h with h1 h2
          subst h1
          try subst h2
          clear HF
          have HW := Lib.hid (newMb_zeroC (T := [w.heap.size + 1 + 1]) (fun i hi => by simp at hi; omega) bb7)
          have cz0 := ko.here.cell 0 _ rfl
          have fz0 := Lib.frozen_of_heap ko.here 0
          have cz1 := ko.here.cell 1 _ rfl
          have fz1 := Lib.frozen_of_heap ko.here 1
          have cz2 := ko.here.cell 2 _ rfl
          have fz2 := Lib.frozen_of_heap ko.here 2
          clear ko o9 oy ky hlow l9 kr
          go_wp2
          refine bodyPost_ret (v := .tuple #[.agg #[.string ⟨#[]⟩, .bool false, .slice none 0 0], .bool false]) (by simp [results, Tryz.results61, go_sem, cz0, cz1, cz2]) rfl ?_
          refine HW.out _ ?_
          repeat (first | with_reducible exact Chg.refl _ _ | with_reducible refine Chg.setCell ?_ (by simp) _ | with_reducible refine Chg.drew1 ?_ | with_reducible refine Chg.trans ?_ (Chg.of_below (below_al (Below.refl _ _) _)))
        | true =>
          have kr_c0 := kr.here.cell 0 _ rfl
          have kr_c1 := kr.here.cell 1 _ rfl
          have kr_c2 := kr.here.cell 2 _ rfl
          have HW := Lib.hid (newMb_chgC (R0 := R) (R1 := true) (v := .agg #[.string R.1, .bool R.2.1, .slice A9 R.2.2.length c9]) (T := [w.heap.size + 1 + 1]) o9 (fun i hi hm => by have := hlow i hi; simp at hm; omega) (fun i hi => by simp at hi; omega) (fun i hi => by have := hlow i hi; omega) bb7)
          have cz0 := ko.here.cell 0 _ rfl
          have fz0 := Lib.frozen_of_heap ko.here 0
          have cz1 := ko.here.cell 1 _ rfl
          have fz1 := Lib.frozen_of_heap ko.here 1
          have cz2 := ko.here.cell 2 _ rfl
          have fz2 := Lib.frozen_of_heap ko.here 2
          clear ko o9 oy ky hlow l9 kr
          go_wp2
          refine bodyPost_ret (v := .tuple #[.agg #[.string R.1, .bool R.2.1, .slice A9 R.2.2.length c9], .bool true]) (by simp [results, Tryz.results61, go_sem, cz0, cz1, cz2]) rfl ?_
          refine HW.out _ ?_
          repeat (first | with_reducible exact Chg.refl _ _ | with_reducible refine Chg.setCell ?_ (by simp) _ | with_reducible refine Chg.drew1 ?_ | with_reducible refine Chg.trans ?_ (Chg.of_below (below_al (Below.refl _ _) _)))
end Go.Proofs.YtehkknphcflofaaGreatDoor
