/-
  Chapter 12 of package impl: UnitRate.
-/
import Derived.Test.YtehkknphcflofaaGreatDoorJU10
namespace Go.Proofs.YtehkknphcflofaaGreatDoor
open Go.RowKit

set_option maxHeartbeats 4000000 in
set_option maxRecDepth 100000 in
theorem implUnitRate_any (v : Value) (t : TI) (p q : ByteArray) (w : World) (hl : t.2.length ≤ 1099511627776) (hx : ∀ x ∈ t.2, x.2.2.1.2.length ≤ 1048576) (h : OwnTR w v t) (ht : CurTab w) (hsen : Sen w) :
    Calls Tryz.prog 19 #[v, .string p, .string q] w (PostQb (unitR t p q).1 (unitR t p q).2 w) := by
  have HT := Lib.hid ht
  have HS := Lib.hid hsen
  clear ht hsen
  obtain ⟨A, c, rfl, hr⟩ := ownTR_form h
  have HR := Lib.hid (show ∀ W, Below w.heap.size w W → OwnER W (.slice A t.2.length c) t.2 from fun W h => hr.below h)
  have HTR := Lib.hid (show ∀ W, Below w.heap.size w W → OwnTR W (.agg #[.string t.1, .slice A t.2.length c]) t from fun W h => ⟨_, rfl, hr.below h⟩)
  clear h hr
  have bb0 : Below w.heap.size w ((w.alloc (.cells #[.string t.1, .slice A t.2.length c] 25)).alloc (.cells #[.bool false, .slice none 0 0, .slice none 0 0] 36)) := below_al (below_al (Below.refl _ _) _) _
  have kt := (box_new w #[.string t.1, .slice A t.2.length c] 25).below (below_al (Below.refl _ _) (.cells #[.bool false, .slice none 0 0, .slice none 0 0] 36))
  have ko := (box_new (w.alloc (.cells #[.string t.1, .slice A t.2.length c] 25)) #[.bool false, .slice none 0 0, .slice none 0 0] 36)
  rw [show (w.alloc (.cells #[.string t.1, .slice A t.2.length c] 25)).heap.size = w.heap.size + 1 by simp] at ko
  obtain ⟨⟨X, x⟩, hHX⟩ : ∃ r, rateT t p q = r := ⟨_, rfl⟩
  have HX := Lib.hid hHX
  obtain ⟨⟨Y, y⟩, hHY⟩ : ∃ r, divQ (unitC q) (unitC p) = r := ⟨_, rfl⟩
  have HY := Lib.hid hHY
  obtain ⟨⟨R, r⟩, hHR2⟩ : ∃ r, unitR t p q = r := ⟨_, rfl⟩
  have HR2 := Lib.hid hHR2
  have hsX : szQ X ≤ 1048576 := by have := rateT_szC t p q; rw [hHX] at this; exact this
  have hsY : szQ Y ≤ 1048576 := by have := divQ_szC (unitC q) (unitC p); rw [hHY] at this; exact this
  have EV := Lib.hid (show mulQ X Y = (R, r) by rw [← hHR2, ← unit_impl]; unfold facU; rw [hHX, hHY])
  have EN := Lib.hid (show x = false → (R, r) = (zeroQ, false) from fun h => by rw [← hHR2]; unfold unitR; rw [hHX, if_neg (fun hh => by have h2 : x = true := hh; rw [h] at h2; cases h2)])
  rw [hHR2]
  clear hHX hHY hHR2
  go_enter Tryz.func19, Tryz.ntmps19
  have kt_c0 := kt.here.cell 0 _ rfl
  have kt_c1 := kt.here.cell 1 _ rfl
  go_wp2_with fail
  clear kt_c0 kt_c1
  refine ((implRateOf_any _ t p q _ hl hx (HTR.out _ bb0) (HT.out.below bb0) (HS.out.below bb0)).mono fun _ _ h => postQb_isC HX.out h).mono ?_
  rintro e w1 ⟨u1, S1, rfl, o1, l1, b1⟩
  obtain ⟨A1, c1, B1, d1, rfl⟩ := ownQ_form o1.here
  have hz1 : w.heap.size + 2 ≤ w1.heap.size := by have := b1.size; (try simp at this); omega
  have bb1 := Below.next bb0 b1
  replace kt := kt.below b1
  replace ko := ko.below b1
  have kx := box_new (w1) #[.bool X.1.1, .slice A1 X.1.2.length c1, .slice B1 X.2.length d1] 36
  have alx := below_al (Below.refl (w1).heap.size (w1)) (.cells #[.bool X.1.1, .slice A1 X.1.2.length c1, .slice B1 X.2.length d1] 36)
  have bbx := Below.next bb1 alx
  replace kt := kt.below alx
  replace ko := ko.below alx
  replace o1 := o1.below alx
  clear kt
  go_wp2_with fail
  refine (implCurUnit_any q _ (HT.out.below bbx) (HS.out.below bbx)).mono ?_
  rintro e w2 ⟨u2, S2, rfl, o2, l2, b2⟩
  obtain ⟨A2, c2, B2, d2, rfl⟩ := ownQ_form o2.here
  have hz2 : w.heap.size + 2 ≤ w2.heap.size := by have := b2.size; (try simp at this); omega
  have bb2 := Below.next bbx b2
  replace ko := ko.below b2
  replace o1 := o1.below b2
  replace kx := kx.below b2
  go_wp2_with fail
  refine (implCurUnit_any p _ (HT.out.below bb2) (HS.out.below bb2)).mono ?_
  rintro e w3 ⟨u3, S3, rfl, o3, l3, b3⟩
  obtain ⟨A3, c3, B3, d3, rfl⟩ := ownQ_form o3.here
  have hz3 : w.heap.size + 2 ≤ w3.heap.size := by have := b3.size; (try simp at this); omega
  have bb3 := Below.next bb2 b3
  replace ko := ko.below b3
  replace o1 := o1.below b3
  replace kx := kx.below b3
  replace o2 := o2.below b3
  go_wp2_with fail
  refine ((implRatDiv_any _ _ (unitC q) (unitC p) _ (unitC_szC q) (unitC_szC p) o2.here o3.here (HS.out.below bb3)).mono fun _ _ h => postQb_isC HY.out h).mono ?_
  rintro e w4 ⟨u4, S4, rfl, o4, l4, b4⟩
  obtain ⟨A4, c4, B4, d4, rfl⟩ := ownQ_form o4.here
  have hz4 : w.heap.size + 2 ≤ w4.heap.size := by have := b4.size; (try simp at this); omega
  have bb4 := Below.next bb3 b4
  replace ko := ko.below b4
  replace o1 := o1.below b4
  replace kx := kx.below b4
  replace o2 := o2.below b4
  replace o3 := o3.below b4
  clear o2 o3
  have ky := box_new (w4) #[.bool Y.1.1, .slice A4 Y.1.2.length c4, .slice B4 Y.2.length d4] 36
  have aly := below_al (Below.refl (w4).heap.size (w4)) (.cells #[.bool Y.1.1, .slice A4 Y.1.2.length c4, .slice B4 Y.2.length d4] 36)
  have bby := Below.next bb4 aly
  replace ko := ko.below aly
  replace o1 := o1.below aly
  replace kx := kx.below aly
  replace o4 := o4.below aly
  have kx_c0 := kx.here.cell 0 _ rfl
  have kx_c1 := kx.here.cell 1 _ rfl
  have kx_c2 := kx.here.cell 2 _ rfl
  have ky_c0 := ky.here.cell 0 _ rfl
  have ky_c1 := ky.here.cell 1 _ rfl
  have ky_c2 := ky.here.cell 2 _ rfl
  go_wp2_with fail
  clear kx_c0 kx_c1 kx_c2 ky_c0 ky_c1 ky_c2
  refine ((implRatMul_any _ _ X Y _ hsX hsY o1.here o4.here (HS.out.below bby)).mono fun _ _ h => postQb_isC EV.out h).mono ?_
  rintro e w5 ⟨u5, S5, rfl, o5, l5, b5⟩
  obtain ⟨A5, c5, B5, d5, rfl⟩ := ownQ_form o5.here
  have hz5 : w.heap.size + 2 ≤ w5.heap.size := by have := b5.size; (try simp at this); omega
  have bb5 := Below.next bby b5
  replace ko := ko.below b5
  replace o1 := o1.below b5
  replace kx := kx.below b5
  replace o4 := o4.below b5
  replace ky := ky.below b5
  have hlow : ∀ i ∈ S5, w.heap.size + 1 < i := fun i hi => by have := (l5 i hi).1; (try simp at this); omega
  have HW := Lib.hid (newQb_chgC (R0 := R) (R1 := r) (v := .agg #[.bool R.1.1, .slice A5 R.1.2.length c5, .slice B5 R.2.length d5]) (T := [w.heap.size + 1]) o5 (fun i hi hm => by have := hlow i hi; simp at hm; omega) (fun i hi => by simp at hi; omega) (fun i hi => by have := hlow i hi; omega) bb5)
  have cz0 := ko.here.cell 0 _ rfl
  have fz0 := Lib.frozen_of_heap ko.here 0
  have cz1 := ko.here.cell 1 _ rfl
  have fz1 := Lib.frozen_of_heap ko.here 1
  have cz2 := ko.here.cell 2 _ rfl
  have fz2 := Lib.frozen_of_heap ko.here 2
  clear ko o1 o4 o5 l1 l2 l3 l4 l5 kx ky hlow
  go_wp2
  refine bodyPost_ret (v := .tuple #[.agg #[.bool R.1.1, .slice A5 R.1.2.length c5, .slice B5 R.2.length d5], .bool r]) (by simp [results, Tryz.results19, go_sem, cz0, cz1, cz2]) rfl ?_
  refine HW.out _ ?_
  repeat (first | with_reducible exact Chg.refl _ _ | with_reducible refine Chg.setCell ?_ (by simp) _ | with_reducible refine Chg.drew1 ?_ | with_reducible refine Chg.trans ?_ (Chg.of_below (below_al (Below.refl _ _) _)))
end Go.Proofs.YtehkknphcflofaaGreatDoor
