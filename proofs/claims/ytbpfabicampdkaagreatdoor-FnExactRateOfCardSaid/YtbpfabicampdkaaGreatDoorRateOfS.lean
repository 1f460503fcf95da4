/-
  Chapter 11 of package spec: what RateOf returns, given what l10Step does.
-/
import Derived.Test.YtbpfabicampdkaaGreatDoorRateHowS
import Derived.Test.YtbpfabicampdkaaGreatDoorRateStep
import Derived.Test.YtbpfabicampdkaaGreatDoorJB10
namespace Go.Proofs.YtbpfabicampdkaaGreatDoor
open Go.RowKit

set_option maxHeartbeats 4000000 in
set_option maxRecDepth 100000 in
theorem specRateOf_any (v : Value) (t : TI) (p q : ByteArray) (w : World) (hl : t.2.length ≤ 1099511627776) (hx : ∀ x ∈ t.2, x.2.2.1.2.length ≤ 1048576) (h : OwnTR w v t)
    (HST : ∀ (va : Value) (a b : ByteArray) (W : World), ¬ legT t.2 a b = 0 → OwnTR W va t → Calls Tryz.prog 79 #[va, .string a, .string b] W (NewV (fun u => OwnQ u (stepT t.2 a b)) W)) :
    Calls Tryz.prog 30 #[v, .string p, .string q] w (PostQb (rateT t p q).1 (rateT t p q).2 w) := by
  have HS := Lib.hid HST
  clear HST
  obtain ⟨A, c, rfl, hr⟩ := ownTR_form h
  have HR := Lib.hid (show ∀ W, Below w.heap.size w W → OwnER W (.slice A t.2.length c) t.2 from fun W h => hr.below h)
  have HTR := Lib.hid (show ∀ W, Below w.heap.size w W → OwnTR W (.agg #[.string t.1, .slice A t.2.length c]) t from fun W h => ⟨_, rfl, hr.below h⟩)
  clear h hr
  have bb0 : Below w.heap.size w ((w.alloc (.cells #[.string t.1, .slice A t.2.length c] 25)).alloc (.cells #[.bool false, .slice none 0 0, .slice none 0 0] 32)) := below_al (below_al (Below.refl _ _) _) _
  have kt := (box_new w #[.string t.1, .slice A t.2.length c] 25).below (below_al (Below.refl _ _) (.cells #[.bool false, .slice none 0 0, .slice none 0 0] 32))
  have ko := (box_new (w.alloc (.cells #[.string t.1, .slice A t.2.length c] 25)) #[.bool false, .slice none 0 0, .slice none 0 0] 32)
  rw [show (w.alloc (.cells #[.string t.1, .slice A t.2.length c] 25)).heap.size = w.heap.size + 1 by simp] at ko
  go_enter Tryz.func30, Tryz.ntmps30
  have kt_c0 := kt.here.cell 0 _ rfl
  have kt_c1 := kt.here.cell 1 _ rfl
  go_wp2_with fail
  clear kt_c0 kt_c1
  refine (specRateHow_any _ t p q _ hl hx (HTR.out _ bb0)).mono ?_
  rintro e w1 ⟨rfl, b1⟩
  have bb1 := Below.next bb0 b1
  replace kt := kt.below b1
  replace ko := ko.below b1
  have HE := Lib.hid (show rateT t p q = (if howT t p q = 1 then unitQ else if howT t p q = 2 ∨ howT t p q = 3 then (stepT t.2 p q, true) else if howT t p q = 4 then mulQ (stepT t.2 p t.1) (stepT t.2 t.1 q) else (zeroQ, false)) from rfl)
  have HLE := Lib.hid (howT_leg t p q)
  have HPI := Lib.hid (howT_piv t p q)
  clear hx
  generalize howT t p q = z at *
  by_cases z1 : z = 1
  · subst z1
    have HV := Lib.hid (show rateT t p q = unitQ from HE.out)
    clear HE kt
    go_wp2_with fail
    refine ((specIntOf_any 1 _ (by decide) (by decide)).mono fun _ _ h => NewS.newV h).mono ?_
    rintro e w2 ⟨ui, Si, rfl, oi, li, b2⟩
    have bb2 := Below.next bb1 b2
    replace ko := ko.below b2
    obtain ⟨Ai, ci, rfl⟩ := ownS_form oi.here
    go_wp2_with fail
    refine (specRatInt_any _ (ofZ 1) _ one_szR oi.here).mono ?_
    rintro e w3 ⟨uf, Sf, rfl, of, lf, b3⟩
    have bb3 := Below.next bb2 b3
    replace ko := ko.below b3
    replace oi := oi.below b3
    obtain ⟨Af, cf, Bf, df, rfl⟩ := ownQ_form of.here
    have HW := Lib.hid (newQb_at (r := w.heap.size + 1) (b := (makeQ (ofZ 1) (ofZ 1)).2) of lf (by have := b2.size; have := b2.size; have := (show w.heap.size + 2 ≤ w1.heap.size by have := ko.lt (w.heap.size + 1) (by simp); have := b1.size; simp at this; omega); omega) (by omega) bb3)
    have cz0 := ko.here.cell 0 _ rfl
    have fz0 := Lib.frozen_of_heap ko.here 0
    have cz1 := ko.here.cell 1 _ rfl
    have fz1 := Lib.frozen_of_heap ko.here 1
    have cz2 := ko.here.cell 2 _ rfl
    have fz2 := Lib.frozen_of_heap ko.here 2
    clear of ko oi
    go_wp2
    refine bodyPost_ret (v := .tuple #[.agg #[.bool _, .slice Af _ cf, .slice Bf _ df], .bool _]) (by simp [results, Tryz.results30, go_sem, cz0, cz1, cz2]; exact ⟨⟨rfl, rfl, rfl⟩, rfl⟩) rfl ?_
    rw [HV.out]
    exact HW.out
  have y1 : (z == (1 : Int)) = false := by simpa using z1
  by_cases z2 : z = 2
  · subst z2
    have HV := Lib.hid (show rateT t p q = (stepT t.2 p q, true) from HE.out)
    have HG := Lib.hid (HLE.out (.inl rfl))
    clear HE HLE HPI
    have kt_c0 := kt.here.cell 0 _ rfl
    have kt_c1 := kt.here.cell 1 _ rfl
    go_wp2_with fail
    clear kt_c0 kt_c1
    refine (HS.out _ p q _ HG.out (HTR.out _ bb1)).mono ?_
    rintro e w2 ⟨uf, Sf, rfl, of, lf, b2⟩
    have bb2 := Below.next bb1 b2
    replace kt := kt.below b2
    replace ko := ko.below b2
    obtain ⟨Af, cf, Bf, df, rfl⟩ := ownQ_form of.here
    have HW := Lib.hid (newQb_at (r := w.heap.size + 1) (b := true) of lf (by have := (show w.heap.size + 2 ≤ w1.heap.size by have := b1.size; simp at this; omega); omega) (by omega) bb2)
    have cz0 := ko.here.cell 0 _ rfl
    have fz0 := Lib.frozen_of_heap ko.here 0
    have cz1 := ko.here.cell 1 _ rfl
    have fz1 := Lib.frozen_of_heap ko.here 1
    have cz2 := ko.here.cell 2 _ rfl
    have fz2 := Lib.frozen_of_heap ko.here 2
    clear of ko kt
    go_wp2
    refine bodyPost_ret (v := .tuple #[.agg #[.bool _, .slice Af _ cf, .slice Bf _ df], .bool true]) (by simp [results, Tryz.results30, go_sem, cz0, cz1, cz2]; try exact ⟨rfl, rfl, rfl⟩) rfl ?_
    rw [HV.out]
    exact HW.out
  have y2 : (z == (2 : Int)) = false := by simpa using z2
  by_cases z3 : z = 3
  · subst z3
    have HV := Lib.hid (show rateT t p q = (stepT t.2 p q, true) from HE.out)
    have HG := Lib.hid (HLE.out (.inr rfl))
    clear HE HLE HPI
    have kt_c0 := kt.here.cell 0 _ rfl
    have kt_c1 := kt.here.cell 1 _ rfl
    go_wp2_with fail
    clear kt_c0 kt_c1
    refine (HS.out _ p q _ HG.out (HTR.out _ bb1)).mono ?_
    rintro e w2 ⟨uf, Sf, rfl, of, lf, b2⟩
    have bb2 := Below.next bb1 b2
    replace kt := kt.below b2
    replace ko := ko.below b2
    obtain ⟨Af, cf, Bf, df, rfl⟩ := ownQ_form of.here
    have HW := Lib.hid (newQb_at (r := w.heap.size + 1) (b := true) of lf (by have := (show w.heap.size + 2 ≤ w1.heap.size by have := b1.size; simp at this; omega); omega) (by omega) bb2)
    have cz0 := ko.here.cell 0 _ rfl
    have fz0 := Lib.frozen_of_heap ko.here 0
    have cz1 := ko.here.cell 1 _ rfl
    have fz1 := Lib.frozen_of_heap ko.here 1
    have cz2 := ko.here.cell 2 _ rfl
    have fz2 := Lib.frozen_of_heap ko.here 2
    clear of ko kt
    go_wp2
    refine bodyPost_ret (v := .tuple #[.agg #[.bool _, .slice Af _ cf, .slice Bf _ df], .bool true]) (by simp [results, Tryz.results30, go_sem, cz0, cz1, cz2]; try exact ⟨rfl, rfl, rfl⟩) rfl ?_
    rw [HV.out]
    exact HW.out
  have y3 : (z == (3 : Int)) = false := by simpa using z3
  by_cases z4 : z = 4
  · subst z4
    have HV := Lib.hid (show rateT t p q = mulQ (stepT t.2 p t.1) (stepT t.2 t.1 q) from HE.out)
    have HG := Lib.hid (HPI.out rfl)
    clear HE HLE HPI
    have HQ1 := Lib.hid (stepT_sz t.2 p t.1)
    have HQ2 := Lib.hid (stepT_sz t.2 t.1 q)
    have HK := Lib.hid (show w.heap.size + 2 ≤ w1.heap.size by have := b1.size; simp at this; omega)
    clear z1 z2 z3 y1 y2 y3
    have kt_c0 := kt.here.cell 0 _ rfl
    have kt_c1 := kt.here.cell 1 _ rfl
    go_wp2_with fail
    have HC0 := Lib.hid (show Chg [w.heap.size + 1] w1 w1.drew from (Chg.refl _ _).drew1)
    have HCr := Lib.hid (show Chg [w.heap.size + 1] w1 w1 from Chg.refl _ _)
    have KL := Lib.hid (show ∀ W, Chg [w.heap.size + 1] w1 W → W.cell? ⟨w.heap.size, 0, none⟩ = some (.string t.1) ∧ W.cell? ⟨w.heap.size, 1, none⟩ = some (.slice A t.2.length c) ∧ Hid (Chg [w.heap.size + 1] w1 W) from fun W hc => ⟨(kt.chg hc (fun i hi hm => by simp at hi hm; omega)).here.cell 0 _ rfl, (kt.chg hc (fun i hi hm => by simp at hi hm; omega)).here.cell 1 _ rfl, Lib.hid hc⟩)
    have BBF := Lib.hid (show ∀ W, Chg [w.heap.size + 1] w1 W → Below w.heap.size w W from fun W hc => below_chg bb1 hc bb1.size (fun i hi => by simp at hi; omega))
    clear kt_c0 kt_c1
    go_region_held3 (fun W => W.cell? ⟨w.heap.size, 0, none⟩ = some (.string t.1) ∧ W.cell? ⟨w.heap.size, 1, none⟩ = some (.slice A t.2.length c) ∧ Hid (Chg [w.heap.size + 1] w1 W))
      ((refine KL.out _ ?_; (first | exact HC4.out | exact HC3.out | exact HC2.out | exact HCr.out | exact HC0.out | exact HC4.out.drew1 | exact HC3.out.drew1 | exact HC2.out.drew1 | exact HCr.out.drew1 | exact HC0.out.drew1 | exact HC4.out.trans (Chg.of_below (below_al (Below.refl _ _) _)) | exact HC3.out.trans (Chg.of_below (below_al (Below.refl _ _) _)) | exact HC2.out.trans (Chg.of_below (below_al (Below.refl _ _) _)) | exact HCr.out.trans (Chg.of_below (below_al (Below.refl _ _) _)) | exact HC0.out.trans (Chg.of_below (below_al (Below.refl _ _) _)) | exact (Chg.setCell HC4.out (by simp) _) | exact (Chg.setCell (Chg.setCell HC4.out (by simp) _) (by simp) _) | exact (Chg.setCell (Chg.setCell (Chg.setCell HC4.out (by simp) _) (by simp) _) (by simp) _) | fail)))
      (first
        | (go_at_call 79; (have hBB := (‹_ ∧ _ ∧ Hid (Chg [w.heap.size + 1] w1 _)›).2.2); (with_reducible refine (HS.out _ p t.1 _ HG.out.1 (HTR.out _ (BBF.out _ hBB.out))).mono ?_); rintro e w2 ⟨ux, Sx, rfl, ox, lx, b2⟩; have HC2 := Lib.hid (hBB.out.trans (Chg.of_below b2)); (have ko_2 := At.below (by first | exact ko | exact At.below ko (below_al (Below.refl _ _) _) | exact At.below (At.below ko (below_al (Below.refl _ _) _)) (below_al (Below.refl _ _) _) | exact At.move ko (fun _ _ => rfl) (Nat.le_refl _)) b2); obtain ⟨Ax, cx, Bx, dx, rfl⟩ := ownQ_form ox.here; have HBZ2 := Lib.hid hBB.out.size; clear hBB)
        | (go_at_call 79; (have hBB := (‹_ ∧ _ ∧ Hid (Chg [w.heap.size + 1] w1 _)›).2.2); (with_reducible refine (HS.out _ t.1 q _ HG.out.2 (HTR.out _ (BBF.out _ hBB.out))).mono ?_); rintro e w3 ⟨uy, Sy, rfl, oy, ly, b3⟩; have HC3 := Lib.hid (hBB.out.trans (Chg.of_below b3)); (have ko_3 := At.below (by first | exact ko_2 | exact At.below ko_2 (below_al (Below.refl _ _) _) | exact At.below (At.below ko_2 (below_al (Below.refl _ _) _)) (below_al (Below.refl _ _) _) | exact At.move ko_2 (fun _ _ => rfl) (Nat.le_refl _)) b3); (have ox_3 := At.below (by first | exact ox | exact At.below ox (below_al (Below.refl _ _) _) | exact At.below (At.below ox (below_al (Below.refl _ _) _)) (below_al (Below.refl _ _) _) | exact At.move ox (fun _ _ => rfl) (Nat.le_refl _)) b3); obtain ⟨Ay, cy, By, dy, rfl⟩ := ownQ_form oy.here; have HBZ3 := Lib.hid hBB.out.size; clear hBB)
        | (go_at_call 80; (have hBB := (‹_ ∧ _ ∧ Hid (Chg [w.heap.size + 1] w1 _)›).2.2); (with_reducible refine (specRatMul_any _ _ (stepT t.2 p t.1) (stepT t.2 t.1 q) _ HQ1.out HQ2.out (At.here (by first | exact ox_3 | exact At.below ox_3 (below_al (Below.refl _ _) _) | exact At.below (At.below ox_3 (below_al (Below.refl _ _) _)) (below_al (Below.refl _ _) _) | exact At.move ox_3 (fun _ _ => rfl) (Nat.le_refl _))) (At.here (by first | exact oy | exact At.below oy (below_al (Below.refl _ _) _) | exact At.below (At.below oy (below_al (Below.refl _ _) _)) (below_al (Below.refl _ _) _) | exact At.move oy (fun _ _ => rfl) (Nat.le_refl _)))).mono ?_); rintro e w4 ⟨uf, Sf, rfl, of, lf, b4⟩; have HC4 := Lib.hid (hBB.out.trans (Chg.of_below b4)); (have ko_4 := At.below (by first | exact ko_3 | exact At.below ko_3 (below_al (Below.refl _ _) _) | exact At.below (At.below ko_3 (below_al (Below.refl _ _) _)) (below_al (Below.refl _ _) _) | exact At.move ko_3 (fun _ _ => rfl) (Nat.le_refl _)) b4); (have ox_4 := At.below (by first | exact ox_3 | exact At.below ox_3 (below_al (Below.refl _ _) _) | exact At.below (At.below ox_3 (below_al (Below.refl _ _) _)) (below_al (Below.refl _ _) _) | exact At.move ox_3 (fun _ _ => rfl) (Nat.le_refl _)) b4); (have oy_4 := At.below (by first | exact oy | exact At.below oy (below_al (Below.refl _ _) _) | exact At.below (At.below oy (below_al (Below.refl _ _) _)) (below_al (Below.refl _ _) _) | exact At.move oy (fun _ _ => rfl) (Nat.le_refl _)) b4); obtain ⟨Af, cf, Bf, df, rfl⟩ := ownQ_form of.here; have cz0 := ko_4.here.cell 0 _ rfl; have fz0 := Lib.frozen_of_heap ko_4.here 0; have cz1 := ko_4.here.cell 1 _ rfl; have fz1 := Lib.frozen_of_heap ko_4.here 1; have cz2 := ko_4.here.cell 2 _ rfl; have fz2 := Lib.frozen_of_heap ko_4.here 2; have HBZ4 := Lib.hid hBB.out.size; clear hBB))
    all_goals
      have bb4 := BBF.out _ HC4.out
      replace kt := kt.chg HC4.out (fun i hi hm => by simp at hi hm; omega)
      replace ko := ko_4
      have ox := ox_4
      have oy := oy_4
      have HW := Lib.hid (newQb_at (r := w.heap.size + 1) (b := (mulQ (stepT t.2 p t.1) (stepT t.2 t.1 q)).2) of lf (by have := HBZ4.out; have := HK.out; omega) (by omega) bb4)
      clear of ko kt ox oy
      go_wp2
      refine bodyPost_ret (v := .tuple #[.agg #[.bool _, .slice Af _ cf, .slice Bf _ df], .bool _]) (by simp [results, Tryz.results30, go_sem, cz0, cz1, cz2]; exact ⟨⟨rfl, rfl, rfl⟩, rfl⟩) rfl ?_
      rw [HV.out]
      exact HW.out
  have y4 : (z == (4 : Int)) = false := by simpa using z4
  have HV := Lib.hid (show rateT t p q = (zeroQ, false) by rw [HE.out, if_neg z1, if_neg (by omega), if_neg z4])
  clear HE kt z1 z2 z3 z4
  have cz0 := ko.here.cell 0 _ rfl
  have fz0 := Lib.frozen_of_heap ko.here 0
  have cz1 := ko.here.cell 1 _ rfl
  have fz1 := Lib.frozen_of_heap ko.here 1
  have cz2 := ko.here.cell 2 _ rfl
  have fz2 := Lib.frozen_of_heap ko.here 2
  clear ko
  go_wp2
  refine bodyPost_ret (v := .tuple #[.agg #[.bool false, .slice none 0 0, .slice none 0 0], .bool false]) (by simp [results, Tryz.results30, go_sem, cz0, cz1, cz2]) rfl ?_
  rw [HV.out]
  first | exact newQb_zero _ bb1 | exact newQb_zero _ (below_set3 bb1 (by omega))
end Go.Proofs.YtbpfabicampdkaaGreatDoor
