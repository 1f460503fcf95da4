/-
  Chapter 11 of package impl: pivotRate, findRate, RateHow, RateOf.
-/
import Derived.Test.YtbpfabicampdkaaGreatDoorRateFindI
import Derived.Test.YtbpfabicampdkaaGreatDoorJB5
namespace Go.Proofs.YtbpfabicampdkaaGreatDoor
open Go.RowKit

set_option maxHeartbeats 4000000 in
set_option maxRecDepth 100000 in
theorem pivotRate_any (v : Value) (t : TI) (p q : ByteArray) (w : World) (hl : t.2.length ≤ 1099511627776) (hx : ∀ x ∈ t.2, x.2.2.1.2.length ≤ 1048576) (h : OwnTR w v t) (hsen : Sen w) :
    Calls Tryz.prog 104 #[v, .string p, .string q] w (PostQn (pivT t p q).1 (pivT t p q).2 w) := by
  have HS := Lib.hid hsen
  clear hsen
  obtain ⟨A, c, rfl, hr⟩ := ownTR_form h
  have HR := Lib.hid (show ∀ W, Below w.heap.size w W → OwnER W (.slice A t.2.length c) t.2 from fun W h => hr.below h)
  have HTR := Lib.hid (show ∀ W, Below w.heap.size w W → OwnTR W (.agg #[.string t.1, .slice A t.2.length c]) t from fun W h => ⟨_, rfl, hr.below h⟩)
  clear h hr
  have bb0 : Below w.heap.size w ((w.alloc (.cells #[.string t.1, .slice A t.2.length c] 25)).alloc (.cells #[.bool false, .slice none 0 0, .slice none 0 0] 32)) := below_al (below_al (Below.refl _ _) _) _
  have kt := (box_new w #[.string t.1, .slice A t.2.length c] 25).below (below_al (Below.refl _ _) (.cells #[.bool false, .slice none 0 0, .slice none 0 0] 32))
  have ko := (box_new (w.alloc (.cells #[.string t.1, .slice A t.2.length c] 25)) #[.bool false, .slice none 0 0, .slice none 0 0] 32)
  rw [show (w.alloc (.cells #[.string t.1, .slice A t.2.length c] 25)).heap.size = w.heap.size + 1 by simp] at ko
  have HKO := Lib.hid (ko.lt (w.heap.size + 1) (by simp))
  obtain ⟨⟨X, x⟩, hX⟩ : ∃ r, storeT t.2 p t.1 = r := ⟨_, rfl⟩
  obtain ⟨⟨Y, y⟩, hY⟩ : ∃ r, storeT t.2 t.1 q = r := ⟨_, rfl⟩
  have HPV := Lib.hid (pivT_of hX hY)
  have hsX : szQ X ≤ 1048576 := by have := storeT_sz t.2 p t.1; rw [hX] at this; exact this
  have hsY : szQ Y ≤ 1048576 := by have := storeT_sz t.2 t.1 q; rw [hY] at this; exact this
  have HX := Lib.hid hX
  have HY := Lib.hid hY
  clear hX hY
  obtain ⟨R, hR⟩ : ∃ R, pivT t p q = R := ⟨_, rfl⟩
  have EQ := Lib.hid hR
  rw [hR]
  clear hR
  go_enter Tryz.func104, Tryz.ntmps104
  have kt_c0 := kt.here.cell 0 _ rfl
  have kt_c1 := kt.here.cell 1 _ rfl
  go_wp2_with fail
  clear kt_c0 kt_c1
  refine ((storedRate_any _ t.2 p t.1 _ hl hx (HR.out _ bb0) (HS.out.below bb0)).mono fun _ _ h => postQn_is HX.out h).mono ?_
  rintro e w1 ⟨u1, S1, rfl, o1, l1, b1⟩
  obtain ⟨A1, c1, B1, d1, rfl⟩ := ownQ_form o1.here
  have hz1 : w.heap.size + 1 + 1 ≤ w1.heap.size := by have := b1.size; simp at this; omega
  have bb1 := Below.next bb0 b1
  replace kt := kt.below b1
  replace ko := ko.below b1
  have kx := box_new (w1) #[.bool X.1.1, .slice A1 X.1.2.length c1, .slice B1 X.2.length d1] 32
  have alx := below_al (Below.refl (w1).heap.size (w1)) (.cells #[.bool X.1.1, .slice A1 X.1.2.length c1, .slice B1 X.2.length d1] 32)
  have bbx := Below.next bb1 alx
  replace kt := kt.below alx
  replace ko := ko.below alx
  replace o1 := o1.below alx
  have kt_c0 := kt.here.cell 0 _ rfl
  have kt_c1 := kt.here.cell 1 _ rfl
  go_wp2_with fail
  clear kt_c0 kt_c1
  refine ((storedRate_any _ t.2 t.1 q _ hl hx (HR.out _ bbx) (HS.out.below bbx)).mono fun _ _ h => postQn_is HY.out h).mono ?_
  rintro e w2 ⟨u2, S2, rfl, o2, l2, b2⟩
  obtain ⟨A2, c2, B2, d2, rfl⟩ := ownQ_form o2.here
  have hz2 : w1.heap.size + 1 ≤ w2.heap.size := by have := b2.size; simp at this; omega
  have bb2 := Below.next bbx b2
  replace kt := kt.below b2
  replace ko := ko.below b2
  replace o1 := o1.below b2
  replace kx := kx.below b2
  have cy0 := ko.here.cell 0 _ rfl
  have fy0 := Lib.frozen_of_heap ko.here 0
  have cy1 := ko.here.cell 1 _ rfl
  have fy1 := Lib.frozen_of_heap ko.here 1
  have cy2 := ko.here.cell 2 _ rfl
  have fy2 := Lib.frozen_of_heap ko.here 2
  have hlo : w.heap.size + 1 < w2.heap.size := by omega
  have hlo1 : ¬ w.heap.size + 1 = w2.heap.size := by omega
  have hlo2 : ¬ w2.heap.size = w.heap.size + 1 := by omega
  have ky := box_new (w2) #[.bool Y.1.1, .slice A2 Y.1.2.length c2, .slice B2 Y.2.length d2] 32
  have aly := below_al (Below.refl (w2).heap.size (w2)) (.cells #[.bool Y.1.1, .slice A2 Y.1.2.length c2, .slice B2 Y.2.length d2] 32)
  have bby := Below.next bb2 aly
  replace kt := kt.below aly
  replace ko := ko.below aly
  replace o1 := o1.below aly
  replace kx := kx.below aly
  replace o2 := o2.below aly
  clear kt
  by_cases hx0 : x = 0
  · have HV := Lib.hid (EQ.out.symm.trans (HPV.out.trans (if_pos (.inl hx0))))
    clear HX HY HPV
    subst hx0
    have HW := Lib.hid (newQn_zero (T := [w.heap.size + 1]) (fun i hi => by simp at hi; omega) bb2)
    clear ko kx ky o1 o2
    go_wp2
    refine bodyPost_ret (v := .tuple #[.agg #[.bool false, .slice none 0 0, .slice none 0 0], .int .i64 0]) (by simp [results, Tryz.results104, go_sem, cy0, cy1, cy2, hlo]) rfl ?_
    rw [show R.1 = zeroQ by rw [HV.out], show R.2 = 0 by rw [HV.out]]
    refine HW.out _ ?_
    repeat (first | with_reducible exact Chg.refl _ _ | with_reducible refine Chg.setCell ?_ (by simp) _ | with_reducible refine Chg.trans ?_ (Chg.of_below (below_al (Below.refl _ _) _)))
  · have hx1 : (x == (0 : Int)) = false := by simpa using hx0
    by_cases hy0 : y = 0
    · have HV := Lib.hid (EQ.out.symm.trans (HPV.out.trans (if_pos (.inr hy0))))
      clear HX HY HPV
      subst hy0
      clear hx0
      have HW := Lib.hid (newQn_zero (T := [w.heap.size + 1]) (fun i hi => by simp at hi; omega) bb2)
      clear ko kx ky o1 o2
      go_wp2
      refine bodyPost_ret (v := .tuple #[.agg #[.bool false, .slice none 0 0, .slice none 0 0], .int .i64 0]) (by simp [results, Tryz.results104, go_sem, cy0, cy1, cy2, hlo]) rfl ?_
      rw [show R.1 = zeroQ by rw [HV.out], show R.2 = 0 by rw [HV.out]]
      refine HW.out _ ?_
      repeat (first | with_reducible exact Chg.refl _ _ | with_reducible refine Chg.setCell ?_ (by simp) _ | with_reducible refine Chg.trans ?_ (Chg.of_below (below_al (Below.refl _ _) _)))
    · have hy1 : (y == (0 : Int)) = false := by simpa using hy0
      have HV := Lib.hid (EQ.out.symm.trans (HPV.out.trans (if_neg (fun hh => hh.elim hx0 hy0))))
      clear hx0 hy0 HX HY HPV
      have kx_c0 := kx.here.cell 0 _ rfl
      have kx_c1 := kx.here.cell 1 _ rfl
      have kx_c2 := kx.here.cell 2 _ rfl
      have ky_c0 := ky.here.cell 0 _ rfl
      have ky_c1 := ky.here.cell 1 _ rfl
      have ky_c2 := ky.here.cell 2 _ rfl
      go_wp2_with fail
      clear kx_c0 kx_c1 kx_c2 ky_c0 ky_c1 ky_c2
      refine (implRatMul_any _ _ X Y _ hsX hsY o1.here o2.here (HS.out.below bby)).mono ?_
      rintro e w3 ⟨u3, S3, rfl, o3, l3, b3⟩
      obtain ⟨A3, c3, B3, d3, rfl⟩ := ownQ_form o3.here
      have hz3 : w2.heap.size + 1 ≤ w3.heap.size := by have := b3.size; simp at this; omega
      have bb3 := Below.next bby b3
      replace ko := ko.below b3
      replace o1 := o1.below b3
      replace kx := kx.below b3
      replace o2 := o2.below b3
      replace ky := ky.below b3
      clear cy0 cy1 cy2 fy0 fy1 fy2 hlo hlo1 hlo2
      have o3P := o3
      have cy0 := ko.here.cell 0 _ rfl
      have fy0 := Lib.frozen_of_heap ko.here 0
      have cy1 := ko.here.cell 1 _ rfl
      have fy1 := Lib.frozen_of_heap ko.here 1
      have cy2 := ko.here.cell 2 _ rfl
      have fy2 := Lib.frozen_of_heap ko.here 2
      have hlo : w.heap.size + 1 < w3.heap.size := by omega
      have hlo1 : ¬ w.heap.size + 1 = w3.heap.size := by omega
      have hlo2 : ¬ w3.heap.size = w.heap.size + 1 := by omega
      have kz := box_new (w3) #[.bool (mulQ X Y).1.1.1, .slice A3 (mulQ X Y).1.1.2.length c3, .slice B3 (mulQ X Y).1.2.length d3] 32
      have alz := below_al (Below.refl (w3).heap.size (w3)) (.cells #[.bool (mulQ X Y).1.1.1, .slice A3 (mulQ X Y).1.1.2.length c3, .slice B3 (mulQ X Y).1.2.length d3] 32)
      have bbz := Below.next bb3 alz
      replace ko := ko.below alz
      replace o1 := o1.below alz
      replace kx := kx.below alz
      replace o2 := o2.below alz
      replace ky := ky.below alz
      replace o3 := o3.below alz
      have HW := Lib.hid (newQn_chg (R0 := (mulQ X Y).1) (R1 := 4) (v := .agg #[.bool (mulQ X Y).1.1.1, .slice A3 (mulQ X Y).1.1.2.length c3, .slice B3 (mulQ X Y).1.2.length d3]) (T := [w.heap.size + 1]) o3P (fun i hi hm => by have := (l3 i hi).1; (try simp at this); simp at hm; omega) (fun i hi => by simp at hi; omega) (fun i hi => by have := (l3 i hi).1; (try simp at this); omega) bb3)
      clear kz
      clear ko kx ky o1 o2 o3 o3P l3 hx1 hy1
      go_wp2
      refine bodyPost_ret (v := .tuple #[.agg #[.bool (mulQ X Y).1.1.1, .slice A3 (mulQ X Y).1.1.2.length c3, .slice B3 (mulQ X Y).1.2.length d3], .int .i64 4]) (by simp [results, Tryz.results104, go_sem, cy0, cy1, cy2, hlo]) rfl ?_
      rw [show R.1 = (mulQ X Y).1 by rw [HV.out], show R.2 = 4 by rw [HV.out]]
      refine HW.out _ ?_
      repeat (first | with_reducible exact Chg.refl _ _ | with_reducible refine Chg.setCell ?_ (by simp) _ | with_reducible refine Chg.trans ?_ (Chg.of_below (below_al (Below.refl _ _) _)))
set_option maxHeartbeats 4000000 in
set_option maxRecDepth 100000 in
theorem findRate_any (v : Value) (t : TI) (p q : ByteArray) (w : World) (hl : t.2.length ≤ 1099511627776) (hx : ∀ x ∈ t.2, x.2.2.1.2.length ≤ 1048576) (h : OwnTR w v t) (ht : CurTab w) (hsen : Sen w) :
    Calls Tryz.prog 46 #[v, .string p, .string q] w (PostQn (findT t p q).1 (findT t p q).2 w) := by
  have HS := Lib.hid hsen
  clear hsen
  have HT := Lib.hid ht
  clear ht
  obtain ⟨A, c, rfl, hr⟩ := ownTR_form h
  have HR := Lib.hid (show ∀ W, Below w.heap.size w W → OwnER W (.slice A t.2.length c) t.2 from fun W h => hr.below h)
  have HTR := Lib.hid (show ∀ W, Below w.heap.size w W → OwnTR W (.agg #[.string t.1, .slice A t.2.length c]) t from fun W h => ⟨_, rfl, hr.below h⟩)
  clear h hr
  have bb0 : Below w.heap.size w ((w.alloc (.cells #[.string t.1, .slice A t.2.length c] 25)).alloc (.cells #[.bool false, .slice none 0 0, .slice none 0 0] 32)) := below_al (below_al (Below.refl _ _) _) _
  have kt := (box_new w #[.string t.1, .slice A t.2.length c] 25).below (below_al (Below.refl _ _) (.cells #[.bool false, .slice none 0 0, .slice none 0 0] 32))
  have ko := (box_new (w.alloc (.cells #[.string t.1, .slice A t.2.length c] 25)) #[.bool false, .slice none 0 0, .slice none 0 0] 32)
  rw [show (w.alloc (.cells #[.string t.1, .slice A t.2.length c] 25)).heap.size = w.heap.size + 1 by simp] at ko
  have HKO := Lib.hid (ko.lt (w.heap.size + 1) (by simp))
  obtain ⟨R, hR⟩ : ∃ R, findT t p q = R := ⟨_, rfl⟩
  have EQ := Lib.hid hR
  rw [hR]
  clear hR
  go_enter Tryz.func46, Tryz.ntmps46
  have kt_c0 := kt.here.cell 0 _ rfl
  have kt_c1 := kt.here.cell 1 _ rfl
  go_wp2_with fail
  clear kt_c0 kt_c1
  refine (implRatesOk_any _ t _ hl hx (HTR.out _ bb0) (HT.out.below bb0)).mono ?_
  rintro e w1 ⟨rfl, b1⟩
  have hz1 : w.heap.size + 1 + 1 ≤ w1.heap.size := by have := b1.size; simp at this; omega
  have bb1 := Below.next bb0 b1
  replace kt := kt.below b1
  replace ko := ko.below b1
  by_cases ok0 : okT t = true
  · rw [ok0]
    have HOok0 := Lib.hid ok0
    clear ok0
    have kt_c0 := kt.here.cell 0 _ rfl
    have kt_c1 := kt.here.cell 1 _ rfl
    go_wp2_with fail
    clear kt_c0 kt_c1
    refine (implCurKnown_any p _ (HT.out.below bb1)).mono ?_
    rintro e w2 ⟨rfl, b2⟩
    have hz2 := b2.size
    have bb2 := Below.next bb1 b2
    replace kt := kt.below b2
    replace ko := ko.below b2
    by_cases ok1 : knownC p = true
    · rw [ok1]
      have HOok1 := Lib.hid ok1
      clear ok1
      have kt_c0 := kt.here.cell 0 _ rfl
      have kt_c1 := kt.here.cell 1 _ rfl
      go_wp2_with fail
      clear kt_c0 kt_c1
      refine (implCurKnown_any q _ (HT.out.below bb2)).mono ?_
      rintro e w3 ⟨rfl, b3⟩
      have hz3 := b3.size
      have bb3 := Below.next bb2 b3
      replace kt := kt.below b3
      replace ko := ko.below b3
      by_cases ok2 : knownC q = true
      · rw [ok2]
        have HOok2 := Lib.hid ok2
        clear ok2
        by_cases ab : p = q
        · have HV := Lib.hid (show R = (unitQ.1, 1) from EQ.out.symm.trans (by unfold findT; rw [if_pos ⟨HOok0.out, HOok1.out, HOok2.out⟩, if_pos ab]))
          have e1 : (p.toList == q.toList) = true := by rw [ab]; exact beq_self_eq_true _
          clear ab
          go_wp2_with fail
          refine (unitRat_any _ (HS.out.below bb3)).mono ?_
          rintro e w4 ⟨u4, S4, rfl, o4, l4, b4⟩
          obtain ⟨A4, c4, B4, d4, rfl⟩ := ownQ_form o4.here
          have bb4 := Below.next bb3 b4
          replace kt := kt.below b4
          replace ko := ko.below b4
          clear kt
          have HW := Lib.hid (newQn_chg (R0 := unitQ.1) (R1 := 1) (v := .agg #[.bool unitQ.1.1.1, .slice A4 unitQ.1.1.2.length c4, .slice B4 unitQ.1.2.length d4]) (T := [w.heap.size + 1]) o4 (fun i hi hm => by have := (l4 i hi).1; (try simp at this); simp at hm; omega) (fun i hi => by simp at hi; omega) (fun i hi => by have := (l4 i hi).1; (try simp at this); omega) bb4)
          have cz0 := ko.here.cell 0 _ rfl
          have fz0 := Lib.frozen_of_heap ko.here 0
          have cz1 := ko.here.cell 1 _ rfl
          have fz1 := Lib.frozen_of_heap ko.here 1
          have cz2 := ko.here.cell 2 _ rfl
          have fz2 := Lib.frozen_of_heap ko.here 2
          clear ko o4 l4 e1
          go_wp2
          refine bodyPost_ret (v := .tuple #[.agg #[.bool unitQ.1.1.1, .slice A4 unitQ.1.1.2.length c4, .slice B4 unitQ.1.2.length d4], .int .i64 1]) (by simp [results, Tryz.results46, go_sem, cz0, cz1, cz2]) rfl ?_
          rw [show R.1 = unitQ.1 by rw [HV.out], show R.2 = 1 by rw [HV.out]]
          refine HW.out _ ?_
          repeat (first | with_reducible exact Chg.refl _ _ | with_reducible refine Chg.setCell ?_ (by simp) _ | with_reducible refine Chg.trans ?_ (Chg.of_below (below_al (Below.refl _ _) _)))
        · have e1 := bytes_neC ab
          obtain ⟨⟨X, x⟩, hX⟩ : ∃ r, storeT t.2 p q = r := ⟨_, rfl⟩
          have HV0 := Lib.hid (EQ.out.symm.trans (findT_of ⟨HOok0.out, HOok1.out, HOok2.out⟩ ab hX))
          have HX := Lib.hid hX
          clear ab hX
          have kt_c0 := kt.here.cell 0 _ rfl
          have kt_c1 := kt.here.cell 1 _ rfl
          go_wp2_with fail
          clear kt_c0 kt_c1
          refine ((storedRate_any _ t.2 p q _ hl hx (HR.out _ bb3) (HS.out.below bb3)).mono fun _ _ h => postQn_is HX.out h).mono ?_
          rintro e w4 ⟨u4, S4, rfl, o4, l4, b4⟩
          obtain ⟨A4, c4, B4, d4, rfl⟩ := ownQ_form o4.here
          have hz4 := b4.size
          have bb4 := Below.next bb3 b4
          replace kt := kt.below b4
          replace ko := ko.below b4
          have o4P := o4
          have cy0 := ko.here.cell 0 _ rfl
          have fy0 := Lib.frozen_of_heap ko.here 0
          have cy1 := ko.here.cell 1 _ rfl
          have fy1 := Lib.frozen_of_heap ko.here 1
          have cy2 := ko.here.cell 2 _ rfl
          have fy2 := Lib.frozen_of_heap ko.here 2
          have hlo : w.heap.size + 1 < w4.heap.size := by omega
          have hlo1 : ¬ w.heap.size + 1 = w4.heap.size := by omega
          have hlo2 : ¬ w4.heap.size = w.heap.size + 1 := by omega
          have kx := box_new (w4) #[.bool X.1.1, .slice A4 X.1.2.length c4, .slice B4 X.2.length d4] 32
          have alx := below_al (Below.refl (w4).heap.size (w4)) (.cells #[.bool X.1.1, .slice A4 X.1.2.length c4, .slice B4 X.2.length d4] 32)
          have bbx := Below.next bb4 alx
          replace kt := kt.below alx
          replace ko := ko.below alx
          replace o4 := o4.below alx
          clear e1
          by_cases hx0 : x = 0
          · obtain ⟨⟨Y, y⟩, hY⟩ : ∃ r, pivT t p q = r := ⟨_, rfl⟩
            have HV := Lib.hid (show R = (Y, y) from HV0.out.trans ((if_pos hx0).trans hY))
            have HY := Lib.hid hY
            clear hY HX HV0
            subst hx0
            have kt_c0 := kt.here.cell 0 _ rfl
            have kt_c1 := kt.here.cell 1 _ rfl
            go_wp2_with fail
            clear kt_c0 kt_c1
            refine ((pivotRate_any _ t p q _ hl hx (HTR.out _ bbx) (HS.out.below bbx)).mono fun _ _ h => postQn_is HY.out h).mono ?_
            rintro e w5 ⟨u5, S5, rfl, o5, l5, b5⟩
            obtain ⟨A5, c5, B5, d5, rfl⟩ := ownQ_form o5.here
            have hz5 : w4.heap.size + 1 ≤ w5.heap.size := by have := b5.size; simp at this; omega
            have bb5 := Below.next bbx b5
            replace kt := kt.below b5
            replace ko := ko.below b5
            replace o4 := o4.below b5
            replace kx := kx.below b5
            clear kt
            clear cy0 cy1 cy2 fy0 fy1 fy2 hlo hlo1 hlo2
            have HW := Lib.hid (newQn_chg (R0 := Y) (R1 := y) (v := .agg #[.bool Y.1.1, .slice A5 Y.1.2.length c5, .slice B5 Y.2.length d5]) (T := [w.heap.size + 1]) o5 (fun i hi hm => by have := (l5 i hi).1; (try simp at this); simp at hm; omega) (fun i hi => by simp at hi; omega) (fun i hi => by have := (l5 i hi).1; (try simp at this); omega) bb5)
            have cz0 := ko.here.cell 0 _ rfl
            have fz0 := Lib.frozen_of_heap ko.here 0
            have cz1 := ko.here.cell 1 _ rfl
            have fz1 := Lib.frozen_of_heap ko.here 1
            have cz2 := ko.here.cell 2 _ rfl
            have fz2 := Lib.frozen_of_heap ko.here 2
            clear ko o4 o4P l4 kx o5 l5
            go_wp2
            refine bodyPost_ret (v := .tuple #[.agg #[.bool Y.1.1, .slice A5 Y.1.2.length c5, .slice B5 Y.2.length d5], .int .i64 y]) (by simp [results, Tryz.results46, go_sem, cz0, cz1, cz2]) rfl ?_
            rw [show R.1 = Y by rw [HV.out], show R.2 = y by rw [HV.out]]
            refine HW.out _ ?_
            repeat (first | with_reducible exact Chg.refl _ _ | with_reducible refine Chg.setCell ?_ (by simp) _ | with_reducible refine Chg.trans ?_ (Chg.of_below (below_al (Below.refl _ _) _)))
          · have HV := Lib.hid (show R = (X, x) from HV0.out.trans (if_neg hx0))
            have hx1 : (x != (0 : Int)) = true := by simpa using hx0
            clear hx0 kt HX HV0
            have HW := Lib.hid (newQn_chg (R0 := X) (R1 := x) (v := .agg #[.bool X.1.1, .slice A4 X.1.2.length c4, .slice B4 X.2.length d4]) (T := [w.heap.size + 1]) o4P (fun i hi hm => by have := (l4 i hi).1; (try simp at this); simp at hm; omega) (fun i hi => by simp at hi; omega) (fun i hi => by have := (l4 i hi).1; (try simp at this); omega) bb4)
            clear kx
            clear ko o4 o4P l4
            go_wp2
            refine bodyPost_ret (v := .tuple #[.agg #[.bool X.1.1, .slice A4 X.1.2.length c4, .slice B4 X.2.length d4], .int .i64 x]) (by simp [results, Tryz.results46, go_sem, cy0, cy1, cy2, hlo]) rfl ?_
            rw [show R.1 = X by rw [HV.out], show R.2 = x by rw [HV.out]]
            refine HW.out _ ?_
            repeat (first | with_reducible exact Chg.refl _ _ | with_reducible refine Chg.setCell ?_ (by simp) _ | with_reducible refine Chg.trans ?_ (Chg.of_below (below_al (Below.refl _ _) _)))
      · have ok2' : knownC q = false := by simpa using ok2
        have HV := Lib.hid (show R = (zeroQ, 0) from EQ.out.symm.trans (by unfold findT; rw [if_neg (fun h => ok2 h.2.2)]))
        rw [ok2']
        clear ok2 ok2' kt
        have HW := Lib.hid (newQn_zero (T := [w.heap.size + 1]) (fun i hi => by simp at hi; omega) bb3)
        have cz0 := ko.here.cell 0 _ rfl
        have fz0 := Lib.frozen_of_heap ko.here 0
        have cz1 := ko.here.cell 1 _ rfl
        have fz1 := Lib.frozen_of_heap ko.here 1
        have cz2 := ko.here.cell 2 _ rfl
        have fz2 := Lib.frozen_of_heap ko.here 2
        clear ko 
        go_wp2
        refine bodyPost_ret (v := .tuple #[.agg #[.bool false, .slice none 0 0, .slice none 0 0], .int .i64 0]) (by simp [results, Tryz.results46, go_sem, cz0, cz1, cz2]) rfl ?_
        rw [show R.1 = zeroQ by rw [HV.out], show R.2 = 0 by rw [HV.out]]
        refine HW.out _ ?_
        repeat (first | with_reducible exact Chg.refl _ _ | with_reducible refine Chg.setCell ?_ (by simp) _ | with_reducible refine Chg.trans ?_ (Chg.of_below (below_al (Below.refl _ _) _)))
    · have ok1' : knownC p = false := by simpa using ok1
      have HV := Lib.hid (show R = (zeroQ, 0) from EQ.out.symm.trans (by unfold findT; rw [if_neg (fun h => ok1 h.2.1)]))
      rw [ok1']
      clear ok1 ok1' kt
      have HW := Lib.hid (newQn_zero (T := [w.heap.size + 1]) (fun i hi => by simp at hi; omega) bb2)
      have cz0 := ko.here.cell 0 _ rfl
      have fz0 := Lib.frozen_of_heap ko.here 0
      have cz1 := ko.here.cell 1 _ rfl
      have fz1 := Lib.frozen_of_heap ko.here 1
      have cz2 := ko.here.cell 2 _ rfl
      have fz2 := Lib.frozen_of_heap ko.here 2
      clear ko 
      go_wp2
      refine bodyPost_ret (v := .tuple #[.agg #[.bool false, .slice none 0 0, .slice none 0 0], .int .i64 0]) (by simp [results, Tryz.results46, go_sem, cz0, cz1, cz2]) rfl ?_
      rw [show R.1 = zeroQ by rw [HV.out], show R.2 = 0 by rw [HV.out]]
      refine HW.out _ ?_
      repeat (first | with_reducible exact Chg.refl _ _ | with_reducible refine Chg.setCell ?_ (by simp) _ | with_reducible refine Chg.trans ?_ (Chg.of_below (below_al (Below.refl _ _) _)))
  · have ok0' : okT t = false := by simpa using ok0
    have HV := Lib.hid (show R = (zeroQ, 0) from EQ.out.symm.trans (by unfold findT; rw [if_neg (fun h => ok0 h.1)]))
    rw [ok0']
    clear ok0 ok0' kt
    have HW := Lib.hid (newQn_zero (T := [w.heap.size + 1]) (fun i hi => by simp at hi; omega) bb1)
    have cz0 := ko.here.cell 0 _ rfl
    have fz0 := Lib.frozen_of_heap ko.here 0
    have cz1 := ko.here.cell 1 _ rfl
    have fz1 := Lib.frozen_of_heap ko.here 1
    have cz2 := ko.here.cell 2 _ rfl
    have fz2 := Lib.frozen_of_heap ko.here 2
    clear ko 
    go_wp2
    refine bodyPost_ret (v := .tuple #[.agg #[.bool false, .slice none 0 0, .slice none 0 0], .int .i64 0]) (by simp [results, Tryz.results46, go_sem, cz0, cz1, cz2]) rfl ?_
    rw [show R.1 = zeroQ by rw [HV.out], show R.2 = 0 by rw [HV.out]]
    refine HW.out _ ?_
    repeat (first | with_reducible exact Chg.refl _ _ | with_reducible refine Chg.setCell ?_ (by simp) _ | with_reducible refine Chg.trans ?_ (Chg.of_below (below_al (Below.refl _ _) _)))
set_option maxHeartbeats 4000000 in
set_option maxRecDepth 100000 in
theorem implRateHow_any (v : Value) (t : TI) (p q : ByteArray) (w : World) (hl : t.2.length ≤ 1099511627776) (hx : ∀ x ∈ t.2, x.2.2.1.2.length ≤ 1048576) (h : OwnTR w v t) (ht : CurTab w) (hsen : Sen w) :
    Calls Tryz.prog 11 #[v, .string p, .string q] w (Postn (howT t p q) w) := by
  have HS := Lib.hid hsen
  clear hsen
  have HT := Lib.hid ht
  clear ht
  obtain ⟨A, c, rfl, hr⟩ := ownTR_form h
  have HR := Lib.hid (show ∀ W, Below w.heap.size w W → OwnER W (.slice A t.2.length c) t.2 from fun W h => hr.below h)
  have HTR := Lib.hid (show ∀ W, Below w.heap.size w W → OwnTR W (.agg #[.string t.1, .slice A t.2.length c]) t from fun W h => ⟨_, rfl, hr.below h⟩)
  clear h hr
  have bb0 : Below w.heap.size w (w.alloc (.cells #[.string t.1, .slice A t.2.length c] 25)) := below_al (Below.refl _ _) _
  have kt := (box_new w #[.string t.1, .slice A t.2.length c] 25)
  obtain ⟨⟨X, x⟩, hX⟩ : ∃ r, findT t p q = r := ⟨_, rfl⟩
  have HX := Lib.hid hX
  have HV := Lib.hid (show howT t p q = x by rw [← find_how, hX])
  clear hX
  go_enter Tryz.func11, Tryz.ntmps11
  have kt_c0 := kt.here.cell 0 _ rfl
  have kt_c1 := kt.here.cell 1 _ rfl
  go_wp2_with fail
  clear kt_c0 kt_c1
  refine ((findRate_any _ t p q _ hl hx (HTR.out _ bb0) (HT.out.below bb0) (HS.out.below bb0)).mono fun _ _ h => postQn_is HX.out h).mono ?_
  rintro e w1 ⟨u1, S1, rfl, o1, l1, b1⟩
  obtain ⟨A1, c1, B1, d1, rfl⟩ := ownQ_form o1.here
  have bb1 := Below.next bb0 b1
  replace kt := kt.below b1
  have kx := box_new (w1) #[.bool X.1.1, .slice A1 X.1.2.length c1, .slice B1 X.2.length d1] 32
  have alx := below_al (Below.refl (w1).heap.size (w1)) (.cells #[.bool X.1.1, .slice A1 X.1.2.length c1, .slice B1 X.2.length d1] 32)
  have bbx := Below.next bb1 alx
  replace kt := kt.below alx
  clear kt kx o1 l1
  go_wp2
  go_ret
  exact ⟨ret_int HV.out.symm, bbx⟩
set_option maxHeartbeats 4000000 in
set_option maxRecDepth 100000 in
theorem implRateOf_any (v : Value) (t : TI) (p q : ByteArray) (w : World) (hl : t.2.length ≤ 1099511627776) (hx : ∀ x ∈ t.2, x.2.2.1.2.length ≤ 1048576) (h : OwnTR w v t) (ht : CurTab w) (hsen : Sen w) :
    Calls Tryz.prog 10 #[v, .string p, .string q] w (PostQb (rateT t p q).1 (rateT t p q).2 w) := by
  have HS := Lib.hid hsen
  clear hsen
  have HT := Lib.hid ht
  clear ht
  obtain ⟨A, c, rfl, hr⟩ := ownTR_form h
  have HR := Lib.hid (show ∀ W, Below w.heap.size w W → OwnER W (.slice A t.2.length c) t.2 from fun W h => hr.below h)
  have HTR := Lib.hid (show ∀ W, Below w.heap.size w W → OwnTR W (.agg #[.string t.1, .slice A t.2.length c]) t from fun W h => ⟨_, rfl, hr.below h⟩)
  clear h hr
  have bb0 : Below w.heap.size w ((w.alloc (.cells #[.string t.1, .slice A t.2.length c] 25)).alloc (.cells #[.bool false, .slice none 0 0, .slice none 0 0] 32)) := below_al (below_al (Below.refl _ _) _) _
  have kt := (box_new w #[.string t.1, .slice A t.2.length c] 25).below (below_al (Below.refl _ _) (.cells #[.bool false, .slice none 0 0, .slice none 0 0] 32))
  have ko := (box_new (w.alloc (.cells #[.string t.1, .slice A t.2.length c] 25)) #[.bool false, .slice none 0 0, .slice none 0 0] 32)
  rw [show (w.alloc (.cells #[.string t.1, .slice A t.2.length c] 25)).heap.size = w.heap.size + 1 by simp] at ko
  have HKO := Lib.hid (ko.lt (w.heap.size + 1) (by simp))
  obtain ⟨⟨X, x⟩, hX⟩ : ∃ r, findT t p q = r := ⟨_, rfl⟩
  have HX := Lib.hid hX
  have HV0 := Lib.hid (show rateT t p q = (X, x != 0) by rw [find_rate, hX])
  clear hX
  obtain ⟨R, hR⟩ : ∃ R, rateT t p q = R := ⟨_, rfl⟩
  have EQ := Lib.hid hR
  rw [hR]
  clear hR
  go_enter Tryz.func10, Tryz.ntmps10
  have kt_c0 := kt.here.cell 0 _ rfl
  have kt_c1 := kt.here.cell 1 _ rfl
  go_wp2_with fail
  clear kt_c0 kt_c1
  refine ((findRate_any _ t p q _ hl hx (HTR.out _ bb0) (HT.out.below bb0) (HS.out.below bb0)).mono fun _ _ h => postQn_is HX.out h).mono ?_
  rintro e w1 ⟨u1, S1, rfl, o1, l1, b1⟩
  obtain ⟨A1, c1, B1, d1, rfl⟩ := ownQ_form o1.here
  have hz1 : w.heap.size + 1 + 1 ≤ w1.heap.size := by have := b1.size; simp at this; omega
  have bb1 := Below.next bb0 b1
  replace kt := kt.below b1
  replace ko := ko.below b1
  have o1P := o1
  have cy0 := ko.here.cell 0 _ rfl
  have fy0 := Lib.frozen_of_heap ko.here 0
  have cy1 := ko.here.cell 1 _ rfl
  have fy1 := Lib.frozen_of_heap ko.here 1
  have cy2 := ko.here.cell 2 _ rfl
  have fy2 := Lib.frozen_of_heap ko.here 2
  have hlo : w.heap.size + 1 < w1.heap.size := by omega
  have hlo1 : ¬ w.heap.size + 1 = w1.heap.size := by omega
  have hlo2 : ¬ w1.heap.size = w.heap.size + 1 := by omega
  have kx := box_new (w1) #[.bool X.1.1, .slice A1 X.1.2.length c1, .slice B1 X.2.length d1] 32
  have alx := below_al (Below.refl (w1).heap.size (w1)) (.cells #[.bool X.1.1, .slice A1 X.1.2.length c1, .slice B1 X.2.length d1] 32)
  have bbx := Below.next bb1 alx
  replace kt := kt.below alx
  replace ko := ko.below alx
  replace o1 := o1.below alx
  clear kt HX
  have HV := Lib.hid (EQ.out.symm.trans HV0.out)
  have HW := Lib.hid (newQb_chg (R0 := X) (R1 := x != 0) (v := .agg #[.bool X.1.1, .slice A1 X.1.2.length c1, .slice B1 X.2.length d1]) (T := [w.heap.size + 1]) o1P (fun i hi hm => by have := (l1 i hi).1; simp at this hm; omega) (fun i hi => by simp at hi; omega) (fun i hi => by have := (l1 i hi).1; simp at this; omega) bb1)
  clear kx
  clear ko o1 o1P l1
  go_wp2
  refine bodyPost_ret (v := .tuple #[.agg #[.bool X.1.1, .slice A1 X.1.2.length c1, .slice B1 X.2.length d1], .bool (x != 0)]) (by simp [results, Tryz.results10, go_sem, cy0, cy1, cy2, hlo]) rfl ?_
  rw [show R.1 = X by rw [HV.out], show R.2 = (x != 0) by rw [HV.out]]
  refine HW.out _ ?_
  repeat (first | with_reducible exact Chg.refl _ _ | with_reducible refine Chg.setCell ?_ (by simp) _ | with_reducible refine Chg.trans ?_ (Chg.of_below (below_al (Below.refl _ _) _)))
end Go.Proofs.YtbpfabicampdkaaGreatDoor
