/-
  Chapter 6 of package spec: what its functions on fractions return.
  Chapter 6 of package spec: RatMake, RatInt, RatZero, RatCmp and RatSign.
  What calls of chapter 7 answer.
  Chapter 7: the modes, their names and impl's table of them.
  Chapter 7: results that lie in their boxes; quotient and rest of a fraction; sums of limbs.
  Chapter 6 of package spec: sums of fractions.
  What RatNeg of package spec returns.
-/
import Derived.Deep.RegionHeld3
import Derived.Deep.DeepCutAuto
import Derived.Laws.OwnMore
import Derived.Laws.EntriesVeiled
import Derived.Deep.RegionLaw
import Derived.Deep.AppendLies
import Derived.Test.YthfkdofnoomhaaaGreatDoorJC5
namespace Go.Proofs.YthfkdofnoomhaaaGreatDoor
open Go.RowKit

theorem ownS_open {u c : Value} {x : SI} {w : World} (h : OwnS (.agg #[c, u]) x w) : OwnI u x.2 w := by
  obtain ⟨u', e, hu⟩ := h
  injection e with e
  simp at e
  obtain ⟨_, e2⟩ := e
  subst e2
  exact hu
theorem OwnS.below {w W : World} {v : Value} {x : SI} (h : OwnS v x w) (hb : Below w.heap.size w W) : OwnS v x W := by
  obtain ⟨u, rfl, o⟩ := h
  exact ⟨u, rfl, own_below o hb⟩
theorem one_szS : szS (ofZ 1) ≤ 1048576 := by have := ofZ_len 1; unfold szS szI; omega
theorem postQb_eq {q Q : QI × Bool} (e : q = Q) {w w' : World} {n : Ending} (h : PostQb q.1 q.2 w n w') : PostQb Q.1 Q.2 w n w' := by rw [← e]; exact h
theorem postn_eq {z z' : Int} (e : z = z') {w w' : World} {n : Ending} (h : Postn z w n w') : Postn z' w n w' := by rw [← e]; exact h
theorem newQ_ret {r : Nat} {u d c0 c1 c2 : Value} {x : QI} {w W : World} {B C : Nat} (hb : BoxAt r #[c0, c1, c2] 34 W) (o : W.ownsRow B 3 1 u x.1.2.length (intsV x.1.2)) (p : W.ownsRow C 3 1 d x.2.length (intsV x.2))
    (hap : ∀ g, u.ownBlock = some g → d.ownBlock ≠ some g) (hB : w.heap.size ≤ B) (hC : w.heap.size ≤ C) (hr : w.heap.size ≤ r) (hW : Below w.heap.size w W) :
    NewV (fun v => OwnQ v x) w (.returned (.agg #[.bool x.1.1, u, d])) (((W.setCell ⟨r, 0, none⟩ (.bool x.1.1)).setCell ⟨r, 1, none⟩ u).setCell ⟨r, 2, none⟩ d) := by
  obtain ⟨v, S, e, k1, k2, k3⟩ := newQb_ret (b := true) hb o p hap hB hC hr hW
  refine ⟨v, S, ?_, k1, k2, k3⟩
  injection e with e
  injection e with e
  simp at e
  rw [e]
theorem OwnQ.below {w W : World} {v : Value} {x : QI} (h : OwnQ v x w) (hb : Below w.heap.size w W) : OwnQ v x W := by
  obtain ⟨u, d, rfl, o, p, hap⟩ := h
  exact ⟨u, d, rfl, own_below o hb, own_below p hb, hap⟩
set_option maxHeartbeats 2000000 in
set_option maxRecDepth 100000 in
theorem specRatDiv_any (vr : Value) (vs : Value) (r s : QI) (w : World) (hzr : szQ r ≤ 1048576) (hzs : szQ s ≤ 1048576) (hr : OwnQ vr r w) (hs : OwnQ vs s w) :
    Calls Tryz.prog 79 #[vr, vs] w (PostQb (divQ r s).1 (divQ r s).2 w) := by
  have Hr := Lib.hid hr
  obtain ⟨Ar, cr, Br, dr, rfl⟩ := ownQ_form hr
  have OQr := Lib.hid (show ∀ W, Below w.heap.size w W → OwnQ (.agg #[.bool r.1.1, .slice Ar r.1.2.length cr, .slice Br r.2.length dr]) r W from fun W hb => OwnQ.below Hr.out hb)
  have OUr := Lib.hid (show ∀ W, Below w.heap.size w W → OwnI (.slice Ar r.1.2.length cr) r.1.2 W from fun W hb => (ownQ_open (OQr.out W hb)).2.1)
  have ODr := Lib.hid (show ∀ W, Below w.heap.size w W → OwnI (.slice Br r.2.length dr) r.2 W from fun W hb => (ownQ_open (OQr.out W hb)).2.2.1)
  have OSr := Lib.hid (show ∀ W, Below w.heap.size w W → OwnS (.agg #[.bool r.1.1, .slice Ar r.1.2.length cr]) r.1 W from fun W hb => OwnS.mk (OUr.out W hb))
  clear hr
  have Hs := Lib.hid hs
  obtain ⟨As, cs, Bs, ds, rfl⟩ := ownQ_form hs
  have OQs := Lib.hid (show ∀ W, Below w.heap.size w W → OwnQ (.agg #[.bool s.1.1, .slice As s.1.2.length cs, .slice Bs s.2.length ds]) s W from fun W hb => OwnQ.below Hs.out hb)
  have OUs := Lib.hid (show ∀ W, Below w.heap.size w W → OwnI (.slice As s.1.2.length cs) s.1.2 W from fun W hb => (ownQ_open (OQs.out W hb)).2.1)
  have ODs := Lib.hid (show ∀ W, Below w.heap.size w W → OwnI (.slice Bs s.2.length ds) s.2 W from fun W hb => (ownQ_open (OQs.out W hb)).2.2.1)
  have OSs := Lib.hid (show ∀ W, Below w.heap.size w W → OwnS (.agg #[.bool s.1.1, .slice As s.1.2.length cs]) s.1 W from fun W hb => OwnS.mk (OUs.out W hb))
  clear hs
  have hlr := szQ_len hzr
  have hl1r := hlr.1
  have hl2r := hlr.2
  clear hlr
  have hls := szQ_len hzs
  have hl1s := hls.1
  have hl2s := hls.2
  clear hls
  have bb0 : Below w.heap.size w (((w.alloc (.cells #[.bool r.1.1, .slice Ar r.1.2.length cr, .slice Br r.2.length dr] 34)).alloc (.cells #[.bool s.1.1, .slice As s.1.2.length cs, .slice Bs s.2.length ds] 34)).alloc (.cells #[.bool false, .slice none 0 0, .slice none 0 0] 34)) := below_al (below_al (below_al (Below.refl _ _) _) _) _
  have kr := (box_new w #[.bool r.1.1, .slice Ar r.1.2.length cr, .slice Br r.2.length dr] 34).below (below_al (below_al (Below.refl _ _) (.cells #[.bool s.1.1, .slice As s.1.2.length cs, .slice Bs s.2.length ds] 34)) (.cells #[.bool false, .slice none 0 0, .slice none 0 0] 34))
  have ks := (box_new (w.alloc (.cells #[.bool r.1.1, .slice Ar r.1.2.length cr, .slice Br r.2.length dr] 34)) #[.bool s.1.1, .slice As s.1.2.length cs, .slice Bs s.2.length ds] 34).below (below_al (Below.refl _ _) (.cells #[.bool false, .slice none 0 0, .slice none 0 0] 34))
  rw [show (w.alloc (.cells #[.bool r.1.1, .slice Ar r.1.2.length cr, .slice Br r.2.length dr] 34)).heap.size = w.heap.size + 1 by simp] at ks
  have ko := (box_new ((w.alloc (.cells #[.bool r.1.1, .slice Ar r.1.2.length cr, .slice Br r.2.length dr] 34)).alloc (.cells #[.bool s.1.1, .slice As s.1.2.length cs, .slice Bs s.2.length ds] 34)) #[.bool false, .slice none 0 0, .slice none 0 0] 34)
  rw [show ((w.alloc (.cells #[.bool r.1.1, .slice Ar r.1.2.length cr, .slice Br r.2.length dr] 34)).alloc (.cells #[.bool s.1.1, .slice As s.1.2.length cs, .slice Bs s.2.length ds] 34)).heap.size = w.heap.size + 1 + 1 by simp] at ko
  go_enter Tryz.func79, Tryz.ntmps79
  have kr_c0 := kr.here.cell 0 _ rfl
  have kr_c1 := kr.here.cell 1 _ rfl
  have kr_c2 := kr.here.cell 2 _ rfl
  go_wp2_with fail
  clear kr_c0 kr_c1 kr_c2
  refine (specRatOk_any _ r _ hzr (OQr.out _ bb0)).mono ?_
  rintro e w1 ⟨rfl, b1⟩
  have bb1 := Below.next bb0 b1
  replace kr := kr.below b1
  replace ks := ks.below b1
  replace ko := ko.below b1
  by_cases okr : okQ r = true
  · rw [okr]
    have HOr := Lib.hid okr
    clear okr
    have ks_c0 := ks.here.cell 0 _ rfl
    have ks_c1 := ks.here.cell 1 _ rfl
    have ks_c2 := ks.here.cell 2 _ rfl
    go_wp2_with fail
    clear ks_c0 ks_c1 ks_c2
    refine (specRatOk_any _ s _ hzs (OQs.out _ bb1)).mono ?_
    rintro e w2 ⟨rfl, b2⟩
    have bb2 := Below.next bb1 b2
    replace kr := kr.below b2
    replace ks := ks.below b2
    replace ko := ko.below b2
    by_cases oks : okQ s = true
    · rw [oks]
      have HOs := Lib.hid oks
      clear oks
      have Pr := parts_of HOr.out
      have Ps := parts_of HOs.out
      have HPr := Lib.hid Pr
      have HPs := Lib.hid Ps
      have hnr := Pr.n50
      have hns := Ps.n50
      have hdr := Pr.d50
      have hds := Ps.d50
      have z0 := bb2.size
      have hko := ko.lt (w.heap.size + 1 + 1) (by simp)
      have H1 := Lib.hid (show (limbs (nval (r.1.2) * nval (s.2)).toNat).length ≤ 50 by rw [mul_toNat (okS_parts HPr.out.okn).1 HPs.out.okd]; exact Nat.le_trans (prod_len HPr.out.nlt HPs.out.dlt) (by decide))
      have H2 := Lib.hid (show (limbs (nval (r.2) * nval (s.1.2)).toNat).length ≤ 50 by rw [mul_toNat HPr.out.okd (okS_parts HPs.out.okn).1]; exact Nat.le_trans (prod_len HPr.out.dlt HPs.out.nlt) (by decide))
      have HV := Lib.hid (show divQ r s = lowQ (!(r.1.1 == s.1.1)) (nval (r.1.2) * nval (s.2)).toNat (nval (r.2) * nval (s.1.2)).toNat by unfold divQ; rw [if_pos ⟨HOr.out, HOs.out⟩, mul_toNat (okS_parts HPr.out.okn).1 HPs.out.okd, mul_toNat HPr.out.okd (okS_parts HPs.out.okn).1]; rfl)
      clear Pr Ps
      have kr_c0 := kr.here.cell 0 _ rfl
      have kr_c1 := kr.here.cell 1 _ rfl
      have kr_c2 := kr.here.cell 2 _ rfl
      have ks_c0 := ks.here.cell 0 _ rfl
      have ks_c1 := ks.here.cell 1 _ rfl
      have ks_c2 := ks.here.cell 2 _ rfl
      go_wp2_with fail
      have HC0 := Lib.hid (show Chg [w.heap.size + 1 + 1] w2 w2.drew from (Chg.refl _ _).drew1)
      have HCr := Lib.hid (show Chg [w.heap.size + 1 + 1] w2 w2 from Chg.refl _ _)
      have KL := Lib.hid (show ∀ W, Chg [w.heap.size + 1 + 1] w2 W → W.cell? ⟨w.heap.size, 0, none⟩ = some (.bool r.1.1) ∧ W.cell? ⟨w.heap.size, 1, none⟩ = some (.slice Ar r.1.2.length cr) ∧ W.cell? ⟨w.heap.size, 2, none⟩ = some (.slice Br r.2.length dr) ∧ W.cell? ⟨w.heap.size + 1, 0, none⟩ = some (.bool s.1.1) ∧ W.cell? ⟨w.heap.size + 1, 1, none⟩ = some (.slice As s.1.2.length cs) ∧ W.cell? ⟨w.heap.size + 1, 2, none⟩ = some (.slice Bs s.2.length ds) ∧ Hid (Chg [w.heap.size + 1 + 1] w2 W) from fun W hc => ⟨(kr.chg hc (fun i hi hm => by simp at hi hm; omega)).here.cell 0 _ rfl, (kr.chg hc (fun i hi hm => by simp at hi hm; omega)).here.cell 1 _ rfl, (kr.chg hc (fun i hi hm => by simp at hi hm; omega)).here.cell 2 _ rfl, (ks.chg hc (fun i hi hm => by simp at hi hm; omega)).here.cell 0 _ rfl, (ks.chg hc (fun i hi hm => by simp at hi hm; omega)).here.cell 1 _ rfl, (ks.chg hc (fun i hi hm => by simp at hi hm; omega)).here.cell 2 _ rfl, Lib.hid hc⟩)
      have BBF := Lib.hid (show ∀ W, Chg [w.heap.size + 1 + 1] w2 W → Below w.heap.size w W from fun W hc => below_chg bb2 hc bb2.size (fun i hi => by simp at hi; omega))
      clear kr_c0 kr_c1 kr_c2 ks_c0 ks_c1 ks_c2
      go_region_held3 (fun W => W.cell? ⟨w.heap.size, 0, none⟩ = some (.bool r.1.1) ∧ W.cell? ⟨w.heap.size, 1, none⟩ = some (.slice Ar r.1.2.length cr) ∧ W.cell? ⟨w.heap.size, 2, none⟩ = some (.slice Br r.2.length dr) ∧ W.cell? ⟨w.heap.size + 1, 0, none⟩ = some (.bool s.1.1) ∧ W.cell? ⟨w.heap.size + 1, 1, none⟩ = some (.slice As s.1.2.length cs) ∧ W.cell? ⟨w.heap.size + 1, 2, none⟩ = some (.slice Bs s.2.length ds) ∧ Hid (Chg [w.heap.size + 1 + 1] w2 W))
        ((refine KL.out _ ?_; (first | exact HC5.out | exact HC4.out | exact HC3.out | exact HCr.out | exact HC0.out | exact HC5.out.drew1 | exact HC4.out.drew1 | exact HC3.out.drew1 | exact HCr.out.drew1 | exact HC0.out.drew1 | exact HC5.out.trans (Chg.of_below (below_al (Below.refl _ _) _)) | exact HC4.out.trans (Chg.of_below (below_al (Below.refl _ _) _)) | exact HC3.out.trans (Chg.of_below (below_al (Below.refl _ _) _)) | exact HCr.out.trans (Chg.of_below (below_al (Below.refl _ _) _)) | exact HC0.out.trans (Chg.of_below (below_al (Below.refl _ _) _)) | exact (Chg.setCell HC5.out (by simp) _) | exact (Chg.setCell (Chg.setCell HC5.out (by simp) _) (by simp) _) | exact (Chg.setCell (Chg.setCell (Chg.setCell HC5.out (by simp) _) (by simp) _) (by simp) _) | fail)))
        (first
          | (go_at_call 63; (have hBB := (‹_ ∧ _ ∧ _ ∧ _ ∧ _ ∧ _ ∧ Hid (Chg [w.heap.size + 1 + 1] w2 _)›).2.2.2.2.2.2); (with_reducible refine (specMulV_any _ _ (r.1.2) (s.2) 0 _ 0 _ _ (by omega) (by omega) (Nat.le_refl _) (Nat.le_refl _) (natOk_parts (okS_parts HPr.out.okn).1).1 (natOk_parts HPs.out.okd).1 (OUr.out _ (BBF.out _ hBB.out)).row (ODs.out _ (BBF.out _ hBB.out)).row).mono ?_); rintro e w3 ⟨ua, rfl, oa_, b3⟩; have HC3 := Lib.hid (hBB.out.trans (Chg.of_below b3)); (have ko_3 := At.below (by first | exact ko | exact At.below ko (below_al (Below.refl _ _) _) | exact At.below (At.below ko (below_al (Below.refl _ _) _)) (below_al (Below.refl _ _) _) | exact At.move ko (fun _ _ => rfl) (Nat.le_refl _)) b3); have oa := own_at' oa_; have HBZ3 := Lib.hid hBB.out.size; clear hBB)
          | (go_at_call 63; (have hBB := (‹_ ∧ _ ∧ _ ∧ _ ∧ _ ∧ _ ∧ Hid (Chg [w.heap.size + 1 + 1] w2 _)›).2.2.2.2.2.2); (with_reducible refine (specMulV_any _ _ (r.2) (s.1.2) 0 _ 0 _ _ (by omega) (by omega) (Nat.le_refl _) (Nat.le_refl _) (natOk_parts HPr.out.okd).1 (natOk_parts (okS_parts HPs.out.okn).1).1 (ODr.out _ (BBF.out _ hBB.out)).row (OUs.out _ (BBF.out _ hBB.out)).row).mono ?_); rintro e w4 ⟨ub, rfl, ob_, b4⟩; have HC4 := Lib.hid (hBB.out.trans (Chg.of_below b4)); (have ko_4 := At.below (by first | exact ko_3 | exact At.below ko_3 (below_al (Below.refl _ _) _) | exact At.below (At.below ko_3 (below_al (Below.refl _ _) _)) (below_al (Below.refl _ _) _) | exact At.move ko_3 (fun _ _ => rfl) (Nat.le_refl _)) b4); (have oa_4 := At.below (by first | exact oa | exact At.below oa (below_al (Below.refl _ _) _) | exact At.below (At.below oa (below_al (Below.refl _ _) _)) (below_al (Below.refl _ _) _) | exact At.move oa (fun _ _ => rfl) (Nat.le_refl _)) b4); have ob := own_at' ob_; have HBZ4 := Lib.hid hBB.out.size; clear hBB)
          | (go_at_call 151; (have hBB := (‹_ ∧ _ ∧ _ ∧ _ ∧ _ ∧ _ ∧ Hid (Chg [w.heap.size + 1 + 1] w2 _)›).2.2.2.2.2.2); (with_reducible refine (l05Low_any _ _ _ ((nval (r.1.2) * nval (s.2)).toNat) ((nval (r.2) * nval (s.1.2)).toNat) _ H1.out H2.out (At.here (by first | exact oa_4 | exact At.below oa_4 (below_al (Below.refl _ _) _) | exact At.below (At.below oa_4 (below_al (Below.refl _ _) _)) (below_al (Below.refl _ _) _) | exact At.move oa_4 (fun _ _ => rfl) (Nat.le_refl _))) (At.here (by first | exact ob | exact At.below ob (below_al (Below.refl _ _) _) | exact At.below (At.below ob (below_al (Below.refl _ _) _)) (below_al (Below.refl _ _) _) | exact At.move ob (fun _ _ => rfl) (Nat.le_refl _)))).mono ?_); rintro e w5 ⟨uf, Sf, rfl, of, lf, b5⟩; have HC5 := Lib.hid (hBB.out.trans (Chg.of_below b5)); (have ko_5 := At.below (by first | exact ko_4 | exact At.below ko_4 (below_al (Below.refl _ _) _) | exact At.below (At.below ko_4 (below_al (Below.refl _ _) _)) (below_al (Below.refl _ _) _) | exact At.move ko_4 (fun _ _ => rfl) (Nat.le_refl _)) b5); (have oa_5 := At.below (by first | exact oa_4 | exact At.below oa_4 (below_al (Below.refl _ _) _) | exact At.below (At.below oa_4 (below_al (Below.refl _ _) _)) (below_al (Below.refl _ _) _) | exact At.move oa_4 (fun _ _ => rfl) (Nat.le_refl _)) b5); (have ob_5 := At.below (by first | exact ob | exact At.below ob (below_al (Below.refl _ _) _) | exact At.below (At.below ob (below_al (Below.refl _ _) _)) (below_al (Below.refl _ _) _) | exact At.move ob (fun _ _ => rfl) (Nat.le_refl _)) b5); obtain ⟨Af, cf, Bf, df, rfl⟩ := ownQ_form of.here; have cz0 := ko_5.here.cell 0 _ rfl; have fz0 := Lib.frozen_of_heap ko_5.here 0; have cz1 := ko_5.here.cell 1 _ rfl; have fz1 := Lib.frozen_of_heap ko_5.here 1; have cz2 := ko_5.here.cell 2 _ rfl; have fz2 := Lib.frozen_of_heap ko_5.here 2; have HBZ5 := Lib.hid hBB.out.size; clear hBB))
      have bb5 := BBF.out _ HC5.out
      replace kr := kr.chg HC5.out (fun i hi hm => by simp at hi hm; omega)
      replace ks := ks.chg HC5.out (fun i hi hm => by simp at hi hm; omega)
      replace ko := ko_5
      have oa := oa_5
      have ob := ob_5
      have HW := Lib.hid (newQb_at (r := w.heap.size + 1 + 1) (b := (lowQ (!(r.1.1 == s.1.1)) ((nval (r.1.2) * nval (s.2)).toNat) ((nval (r.2) * nval (s.1.2)).toNat)).2) of lf (by have := HBZ5.out; omega) (by omega) bb5)
      clear of ko kr ks oa ob z0 hko
      go_wp2
      refine bodyPost_ret (v := .tuple #[.agg #[.bool _, .slice Af _ cf, .slice Bf _ df], .bool _]) (by simp [results, Tryz.results79, go_sem, cz0, cz1, cz2]; exact ⟨⟨rfl, rfl, rfl⟩, rfl⟩) rfl ?_
      rw [HV.out]
      exact HW.out
    · have oks' : okQ s = false := by simpa using oks
      have HV := Lib.hid (show divQ r s = (zeroQ, false) by unfold divQ; rw [if_neg (fun h => oks h.2)])
      rw [oks']
      clear oks oks'
      have ko_c0 := ko.here.cell 0 _ rfl
      have ko_c1 := ko.here.cell 1 _ rfl
      have ko_c2 := ko.here.cell 2 _ rfl
      have cz0 := ko.here.cell 0 _ rfl
      have fz0 := Lib.frozen_of_heap ko.here 0
      have cz1 := ko.here.cell 1 _ rfl
      have fz1 := Lib.frozen_of_heap ko.here 1
      have cz2 := ko.here.cell 2 _ rfl
      have fz2 := Lib.frozen_of_heap ko.here 2
      go_wp2
      refine bodyPost_ret (v := .tuple #[.agg #[.bool false, .slice none 0 0, .slice none 0 0], .bool false]) (by simp [results, Tryz.results79, go_sem, cz0, cz1, cz2]) rfl ?_
      rw [HV.out]
      first | exact newQb_zero _ bb2 | exact newQb_zero _ (below_set3 bb2 (by omega))
  · have okr' : okQ r = false := by simpa using okr
    have HV := Lib.hid (show divQ r s = (zeroQ, false) by unfold divQ; rw [if_neg (fun h => okr h.1)])
    rw [okr']
    clear okr okr'
    have ko_c0 := ko.here.cell 0 _ rfl
    have ko_c1 := ko.here.cell 1 _ rfl
    have ko_c2 := ko.here.cell 2 _ rfl
    have cz0 := ko.here.cell 0 _ rfl
    have fz0 := Lib.frozen_of_heap ko.here 0
    have cz1 := ko.here.cell 1 _ rfl
    have fz1 := Lib.frozen_of_heap ko.here 1
    have cz2 := ko.here.cell 2 _ rfl
    have fz2 := Lib.frozen_of_heap ko.here 2
    go_wp2
    refine bodyPost_ret (v := .tuple #[.agg #[.bool false, .slice none 0 0, .slice none 0 0], .bool false]) (by simp [results, Tryz.results79, go_sem, cz0, cz1, cz2]) rfl ?_
    rw [HV.out]
    first | exact newQb_zero _ bb1 | exact newQb_zero _ (below_set3 bb1 (by omega))
end Go.Proofs.YthfkdofnoomhaaaGreatDoor

namespace Go.Proofs.YthfkdofnoomhaaaGreatDoor
open Go.RowKit

set_option maxHeartbeats 1000000 in
set_option maxRecDepth 100000 in
theorem specRatZero_any (w : World) : Calls Tryz.prog 178 #[] w (NewV (fun v => OwnQ v oneQ) w) := by
  have hs : (w.alloc (.cells #[.bool false, .slice none 0 0, .slice (some ⟨w.heap.size + 1, 0, none⟩) 1 1] 34)).heap.size = w.heap.size + 1 := by simp
  have od : ((w.alloc (.cells #[.bool false, .slice none 0 0, .slice (some ⟨w.heap.size + 1, 0, none⟩) 1 1] 34)).alloc (.cells #[.int .i64 1] 3)).ownsRow w.heap.size 3 1 (.slice (some ⟨w.heap.size + 1, 0, none⟩) 1 1) 1 [.int .i64 1] := by
    have h := World.ownsRow_lit (base := w.heap.size) (e := 3) (size := 1) (w.alloc (.cells #[.bool false, .slice none 0 0, .slice (some ⟨w.heap.size + 1, 0, none⟩) 1 1] 34)) #[.int .i64 1] 1 (by omega) (by unfold maxLen; omega) rfl
    rw [hs] at h
    exact h
  have bb := below_al (below_al (Below.refl w.heap.size w) (.cells #[.bool false, .slice none 0 0, .slice (some ⟨w.heap.size + 1, 0, none⟩) 1 1] 34)) (.cells #[.int .i64 1] 3)
  have HR := Lib.hid (show NewV (fun v => OwnQ v oneQ) w (.returned (.agg #[.bool false, .slice none 0 0, .slice (some ⟨w.heap.size + 1, 0, none⟩) 1 1])) _ from
    ⟨_, _, rfl, partsQ_at (x := oneQ) (World.ownsRow_nil _ 0 _ _) od (fun g hg => by cases hg), (fun g hg => by
      rcases List.mem_append.1 hg with hg | hg
      · cases hg
      · exact own_within od g hg), bb⟩)
  clear od bb hs
  go_enter Tryz.func178, Tryz.ntmps178
  go_wp2
  refine bodyPost_ret (v := .agg #[.bool false, .slice none 0 0, .slice (some ⟨w.heap.size + 1, 0, none⟩) 1 1]) (by simp [results, Tryz.results178, go_sem]) rfl ?_
  exact HR.out
set_option maxHeartbeats 2000000 in
set_option maxRecDepth 100000 in
theorem specRatMake_any (va vb : Value) (a b : SI) (w : World) (hza : szS a ≤ 1048576) (hzb : szS b ≤ 1048576) (ha : OwnS va a w) (hb : OwnS vb b w) :
    Calls Tryz.prog 117 #[va, vb] w (PostQb (makeQ a b).1 (makeQ a b).2 w) := by
  have Ha := Lib.hid ha
  obtain ⟨Aa, ca, rfl⟩ := ownS_form ha
  have OSa := Lib.hid (show ∀ W, Below w.heap.size w W → OwnS (.agg #[.bool a.1, .slice Aa a.2.length ca]) a W from fun W hb => OwnS.below Ha.out hb)
  have OIa := Lib.hid (show ∀ W, Below w.heap.size w W → OwnI (.slice Aa a.2.length ca) a.2 W from fun W hb => ownS_open (OSa.out W hb))
  clear ha
  have Hb := Lib.hid hb
  obtain ⟨Ab, cb, rfl⟩ := ownS_form hb
  have OSb := Lib.hid (show ∀ W, Below w.heap.size w W → OwnS (.agg #[.bool b.1, .slice Ab b.2.length cb]) b W from fun W hb => OwnS.below Hb.out hb)
  have OIb := Lib.hid (show ∀ W, Below w.heap.size w W → OwnI (.slice Ab b.2.length cb) b.2 W from fun W hb => ownS_open (OSb.out W hb))
  clear hb
  have hla : a.2.length ≤ 1048576 := by unfold szS szI at hza; omega
  have hlb : b.2.length ≤ 1048576 := by unfold szS szI at hzb; omega
  clear hza hzb
  have bb0 : Below w.heap.size w (((w.alloc (.cells #[.bool a.1, .slice Aa a.2.length ca] 28)).alloc (.cells #[.bool b.1, .slice Ab b.2.length cb] 28)).alloc (.cells #[.bool false, .slice none 0 0, .slice none 0 0] 34)) := below_al (below_al (below_al (Below.refl _ _) _) _) _
  have ka := (box_new w #[.bool a.1, .slice Aa a.2.length ca] 28).below (below_al (below_al (Below.refl _ _) (.cells #[.bool b.1, .slice Ab b.2.length cb] 28)) (.cells #[.bool false, .slice none 0 0, .slice none 0 0] 34))
  have kb := (box_new (w.alloc (.cells #[.bool a.1, .slice Aa a.2.length ca] 28)) #[.bool b.1, .slice Ab b.2.length cb] 28).below (below_al (Below.refl _ _) (.cells #[.bool false, .slice none 0 0, .slice none 0 0] 34))
  rw [show (w.alloc (.cells #[.bool a.1, .slice Aa a.2.length ca] 28)).heap.size = w.heap.size + 1 by simp] at kb
  have ko := (box_new ((w.alloc (.cells #[.bool a.1, .slice Aa a.2.length ca] 28)).alloc (.cells #[.bool b.1, .slice Ab b.2.length cb] 28)) #[.bool false, .slice none 0 0, .slice none 0 0] 34)
  rw [show ((w.alloc (.cells #[.bool a.1, .slice Aa a.2.length ca] 28)).alloc (.cells #[.bool b.1, .slice Ab b.2.length cb] 28)).heap.size = w.heap.size + 1 + 1 by simp] at ko
  go_enter Tryz.func117, Tryz.ntmps117
  have ka_c0 := ka.here.cell 0 _ rfl
  have ka_c1 := ka.here.cell 1 _ rfl
  go_wp2_with fail
  clear ka_c0 ka_c1
  refine (specIntOk_any _ a _ hla (OwnS.rd (OSa.out _ bb0))).mono ?_
  rintro e w1 ⟨rfl, b1⟩
  have bb1 := Below.next bb0 b1
  replace ka := ka.below b1
  replace kb := kb.below b1
  replace ko := ko.below b1
  by_cases oka : okS a = true
  · rw [oka]
    have HOa := Lib.hid oka
    clear oka
    have kb_c0 := kb.here.cell 0 _ rfl
    have kb_c1 := kb.here.cell 1 _ rfl
    go_wp2_with fail
    clear kb_c0 kb_c1
    refine (specIntOk_any _ b _ hlb (OwnS.rd (OSb.out _ bb1))).mono ?_
    rintro e w2 ⟨rfl, b2⟩
    have bb2 := Below.next bb1 b2
    replace ka := ka.below b2
    replace kb := kb.below b2
    replace ko := ko.below b2
    by_cases okb : okS b = true
    · rw [okb]
      have HOb := Lib.hid okb
      clear okb
      have HKO := Lib.hid (ko.lt (w.heap.size + 1 + 1) (by simp))
      have Ea := Lib.hid (natOk_limbs (okS_parts HOa.out).1)
      have Eb := Lib.hid (natOk_limbs (okS_parts HOb.out).1)
      obtain ⟨Na, hNa⟩ : ∃ Na, (nval a.2).toNat = Na := ⟨_, rfl⟩
      have Ea := Lib.hid (show a.2 = limbs Na by rw [← hNa]; exact natOk_limbs (okS_parts HOa.out).1)
      have La := Lib.hid (show (limbs Na).length ≤ 50 by rw [← Ea.out]; exact (natOk_parts (okS_parts HOa.out).1).2.1)
      obtain ⟨Nb, hNb⟩ : ∃ Nb, (nval b.2).toNat = Nb := ⟨_, rfl⟩
      have Eb := Lib.hid (show b.2 = limbs Nb by rw [← hNb]; exact natOk_limbs (okS_parts HOb.out).1)
      have Lb := Lib.hid (show (limbs Nb).length ≤ 50 by rw [← Eb.out]; exact (natOk_parts (okS_parts HOb.out).1).2.1)
      have HV := Lib.hid (show makeQ a b = lowQ (!(a.1 == b.1)) Na Nb by unfold makeQ; rw [if_pos ⟨HOa.out, HOb.out⟩, hNa, hNb]; rfl)
      clear hNa hNb
      have ka_c0 := ka.here.cell 0 _ rfl
      have ka_c1 := ka.here.cell 1 _ rfl
      have kb_c0 := kb.here.cell 0 _ rfl
      have kb_c1 := kb.here.cell 1 _ rfl
      go_wp2_with fail
      clear ka_c0 ka_c1 kb_c0 kb_c1
      refine (lowX_any _ _ _ a.2 b.2 Na Nb _ La.out Lb.out Ea.out Eb.out (OIa.out _ bb2) (OIb.out _ bb2)).mono ?_
      rintro e w3 ⟨uf, Sf, rfl, of, lf, b3⟩
      obtain ⟨Af, cf, Bf, df, rfl⟩ := ownQ_form of.here
      have bb3 := Below.next bb2 b3
      replace ka := ka.below b3
      replace kb := kb.below b3
      replace ko := ko.below b3
      have HW := Lib.hid (newQb_at (r := w.heap.size + 1 + 1) (b := (lowQ (!(a.1 == b.1)) Na Nb).2) of lf (by have := HKO.out; omega) (by omega) bb3)
      have cz0 := ko.here.cell 0 _ rfl
      have fz0 := Lib.frozen_of_heap ko.here 0
      have cz1 := ko.here.cell 1 _ rfl
      have fz1 := Lib.frozen_of_heap ko.here 1
      have cz2 := ko.here.cell 2 _ rfl
      have fz2 := Lib.frozen_of_heap ko.here 2
      clear of ko
      go_wp2
      refine bodyPost_ret (v := .tuple #[.agg #[.bool _, .slice Af _ cf, .slice Bf _ df], .bool _]) (by simp [results, Tryz.results117, go_sem, cz0, cz1, cz2]; exact ⟨⟨rfl, rfl, rfl⟩, rfl⟩) rfl ?_
      rw [HV.out]
      exact HW.out
    · have okb' : okS b = false := by simpa using okb
      have HV := Lib.hid (show makeQ a b = (zeroQ, false) by unfold makeQ; rw [if_neg (fun h => okb h.2)])
      rw [okb']
      clear okb okb'
      have ko_c0 := ko.here.cell 0 _ rfl
      have ko_c1 := ko.here.cell 1 _ rfl
      have ko_c2 := ko.here.cell 2 _ rfl
      have cz0 := ko.here.cell 0 _ rfl
      have fz0 := Lib.frozen_of_heap ko.here 0
      have cz1 := ko.here.cell 1 _ rfl
      have fz1 := Lib.frozen_of_heap ko.here 1
      have cz2 := ko.here.cell 2 _ rfl
      have fz2 := Lib.frozen_of_heap ko.here 2
      go_wp2
      refine bodyPost_ret (v := .tuple #[.agg #[.bool false, .slice none 0 0, .slice none 0 0], .bool false]) (by simp [results, Tryz.results117, go_sem, cz0, cz1, cz2]) rfl ?_
      rw [HV.out]
      first | exact newQb_zero _ bb2 | exact newQb_zero _ (below_set3 bb2 (by omega))
  · have oka' : okS a = false := by simpa using oka
    have HV := Lib.hid (show makeQ a b = (zeroQ, false) by unfold makeQ; rw [if_neg (fun h => oka h.1)])
    rw [oka']
    clear oka oka'
    have ko_c0 := ko.here.cell 0 _ rfl
    have ko_c1 := ko.here.cell 1 _ rfl
    have ko_c2 := ko.here.cell 2 _ rfl
    have cz0 := ko.here.cell 0 _ rfl
    have fz0 := Lib.frozen_of_heap ko.here 0
    have cz1 := ko.here.cell 1 _ rfl
    have fz1 := Lib.frozen_of_heap ko.here 1
    have cz2 := ko.here.cell 2 _ rfl
    have fz2 := Lib.frozen_of_heap ko.here 2
    go_wp2
    refine bodyPost_ret (v := .tuple #[.agg #[.bool false, .slice none 0 0, .slice none 0 0], .bool false]) (by simp [results, Tryz.results117, go_sem, cz0, cz1, cz2]) rfl ?_
    rw [HV.out]
    first | exact newQb_zero _ bb1 | exact newQb_zero _ (below_set3 bb1 (by omega))
set_option maxHeartbeats 2000000 in
set_option maxRecDepth 100000 in
theorem specRatInt_any (va : Value) (a : SI) (w : World) (hza : szS a ≤ 1048576) (ha : OwnS va a w) :
    Calls Tryz.prog 112 #[va] w (PostQb (makeQ a (ofZ 1)).1 (makeQ a (ofZ 1)).2 w) := by
  have Ha := Lib.hid ha
  obtain ⟨Aa, ca, rfl⟩ := ownS_form ha
  have OSa := Lib.hid (show ∀ W, Below w.heap.size w W → OwnS (.agg #[.bool a.1, .slice Aa a.2.length ca]) a W from fun W hb => OwnS.below Ha.out hb)
  have OIa := Lib.hid (show ∀ W, Below w.heap.size w W → OwnI (.slice Aa a.2.length ca) a.2 W from fun W hb => ownS_open (OSa.out W hb))
  clear ha
  have bb0 : Below w.heap.size w ((w.alloc (.cells #[.bool a.1, .slice Aa a.2.length ca] 28)).alloc (.cells #[.bool false, .slice none 0 0, .slice none 0 0] 34)) := below_al (below_al (Below.refl _ _) _) _
  have ka := (box_new w #[.bool a.1, .slice Aa a.2.length ca] 28).below (below_al (Below.refl _ _) (.cells #[.bool false, .slice none 0 0, .slice none 0 0] 34))
  have ko := (box_new (w.alloc (.cells #[.bool a.1, .slice Aa a.2.length ca] 28)) #[.bool false, .slice none 0 0, .slice none 0 0] 34)
  rw [show (w.alloc (.cells #[.bool a.1, .slice Aa a.2.length ca] 28)).heap.size = w.heap.size + 1 by simp] at ko
  have HKO := Lib.hid (ko.lt (w.heap.size + 1) (by simp))
  obtain ⟨Q, hQ⟩ : ∃ Q, makeQ a (ofZ 1) = Q := ⟨_, rfl⟩
  have EQ := Lib.hid hQ
  rw [hQ]
  clear hQ
  obtain ⟨W0, hW0⟩ : ∃ W0, W0 = ((w.alloc (.cells #[.bool a.1, .slice Aa a.2.length ca] 28)).alloc (.cells #[.bool false, .slice none 0 0, .slice none 0 0] 34)) := ⟨_, rfl⟩
  rw [← hW0] at bb0 ka ko HKO
  have HW0 := Lib.hid hW0
  clear hW0
  have hz0 := HKO.out
  go_enter Tryz.func112, Tryz.ntmps112
  have ka_c0 := ka.here.cell 0 _ rfl
  have ka_c1 := ka.here.cell 1 _ rfl
  go_wp2_with fail
  rw [← HW0.out]
  have HC0 := Lib.hid (show Chg [w.heap.size + 1] W0 W0.drew from (Chg.refl _ _).drew1)
  have HCr := Lib.hid (show Chg [w.heap.size + 1] W0 W0 from Chg.refl _ _)
  have KL := Lib.hid (show ∀ W, Chg [w.heap.size + 1] W0 W → W.cell? ⟨w.heap.size, 0, none⟩ = some (.bool a.1) ∧ W.cell? ⟨w.heap.size, 1, none⟩ = some (.slice Aa a.2.length ca) ∧ Hid (Chg [w.heap.size + 1] W0 W) from fun W hc => ⟨(ka.chg hc (fun i hi hm => by simp at hi hm; omega)).here.cell 0 _ rfl, (ka.chg hc (fun i hi hm => by simp at hi hm; omega)).here.cell 1 _ rfl, Lib.hid hc⟩)
  have BBF := Lib.hid (show ∀ W, Chg [w.heap.size + 1] W0 W → Below w.heap.size w W from fun W hc => below_chg bb0 hc bb0.size (fun i hi => by simp at hi; omega))
  clear ka_c0 ka_c1
  go_region_held3 (fun W => W.cell? ⟨w.heap.size, 0, none⟩ = some (.bool a.1) ∧ W.cell? ⟨w.heap.size, 1, none⟩ = some (.slice Aa a.2.length ca) ∧ Hid (Chg [w.heap.size + 1] W0 W))
    ((refine KL.out _ ?_; (first | exact HC2.out | exact HC1.out | exact HCr.out | exact HC0.out | exact HC2.out.drew1 | exact HC1.out.drew1 | exact HCr.out.drew1 | exact HC0.out.drew1 | exact HC2.out.trans (Chg.of_below (below_al (Below.refl _ _) _)) | exact HC1.out.trans (Chg.of_below (below_al (Below.refl _ _) _)) | exact HCr.out.trans (Chg.of_below (below_al (Below.refl _ _) _)) | exact HC0.out.trans (Chg.of_below (below_al (Below.refl _ _) _)) | exact (Chg.setCell HC2.out (by simp) _) | exact (Chg.setCell (Chg.setCell HC2.out (by simp) _) (by simp) _) | exact (Chg.setCell (Chg.setCell (Chg.setCell HC2.out (by simp) _) (by simp) _) (by simp) _) | fail)))
    (first
      | (go_at_call 118; (have hBB := (‹_ ∧ _ ∧ Hid (Chg [w.heap.size + 1] W0 _)›).2.2); (with_reducible refine ((specIntOf_any 1 _ (by decide) (by decide)).mono fun _ _ h => NewS.newV h).mono ?_); rintro e w1 ⟨ui, Si, rfl, oi, li, b1⟩; have HC1 := Lib.hid (hBB.out.trans (Chg.of_below b1)); (have ko_1 := At.below (by first | exact ko | exact At.below ko (below_al (Below.refl _ _) _) | exact At.below (At.below ko (below_al (Below.refl _ _) _)) (below_al (Below.refl _ _) _) | exact At.move ko (fun _ _ => rfl) (Nat.le_refl _)) b1); obtain ⟨Ai, ci, rfl⟩ := ownS_form oi.here; have HBZ1 := Lib.hid hBB.out.size; clear hBB)
      | (go_at_call 117; (have hBB := (‹_ ∧ _ ∧ Hid (Chg [w.heap.size + 1] W0 _)›).2.2); (with_reducible refine ((specRatMake_any _ _ a (ofZ 1) _ hza one_szS (OSa.out _ (BBF.out _ hBB.out)) (At.here (by first | exact oi | exact At.below oi (below_al (Below.refl _ _) _) | exact At.below (At.below oi (below_al (Below.refl _ _) _)) (below_al (Below.refl _ _) _) | exact At.move oi (fun _ _ => rfl) (Nat.le_refl _)))).mono fun _ _ h => postQb_eq EQ.out h).mono ?_); rintro e w2 ⟨uf, Sf, rfl, of, lf, b2⟩; have HC2 := Lib.hid (hBB.out.trans (Chg.of_below b2)); (have ko_2 := At.below (by first | exact ko_1 | exact At.below ko_1 (below_al (Below.refl _ _) _) | exact At.below (At.below ko_1 (below_al (Below.refl _ _) _)) (below_al (Below.refl _ _) _) | exact At.move ko_1 (fun _ _ => rfl) (Nat.le_refl _)) b2); (have oi_2 := At.below (by first | exact oi | exact At.below oi (below_al (Below.refl _ _) _) | exact At.below (At.below oi (below_al (Below.refl _ _) _)) (below_al (Below.refl _ _) _) | exact At.move oi (fun _ _ => rfl) (Nat.le_refl _)) b2); obtain ⟨Af, cf, Bf, df, rfl⟩ := ownQ_form of.here; have cz0 := ko_2.here.cell 0 _ rfl; have fz0 := Lib.frozen_of_heap ko_2.here 0; have cz1 := ko_2.here.cell 1 _ rfl; have fz1 := Lib.frozen_of_heap ko_2.here 1; have cz2 := ko_2.here.cell 2 _ rfl; have fz2 := Lib.frozen_of_heap ko_2.here 2; have HBZ2 := Lib.hid hBB.out.size; clear hBB))
  have bb2 := BBF.out _ HC2.out
  replace ka := ka.chg HC2.out (fun i hi hm => by simp at hi hm; omega)
  replace ko := ko_2
  have oi := oi_2
  have HW := Lib.hid (newQb_at (r := w.heap.size + 1) (b := Q.2) of lf (by have := HBZ2.out; omega) (by omega) bb2)
  clear of ko ka oi
  go_wp2
  refine bodyPost_ret (v := .tuple #[.agg #[.bool _, .slice Af _ cf, .slice Bf _ df], .bool _]) (by simp [results, Tryz.results112, go_sem, cz0, cz1, cz2]; exact ⟨⟨rfl, rfl, rfl⟩, rfl⟩) rfl ?_
  exact HW.out
end Go.Proofs.YthfkdofnoomhaaaGreatDoor

namespace Go.Proofs.YthfkdofnoomhaaaGreatDoor
open Go.RowKit

/-- what a call answers: a new signed number and a bool; a new signed number, a new fraction and a bool -/
def PostSb (R0 : SI) (R1 : Bool) (w : World) (e : Ending) (w' : World) : Prop :=
  ∃ (v : Value) (S : List Nat), e = .returned (.tuple #[v, .bool R1]) ∧ At S (OwnS v R0) w' ∧ Within S w.heap.size w'.heap.size ∧ Below w.heap.size w w'
def PostSQb (R0 : SI) (R1 : QI) (R2 : Bool) (w : World) (e : Ending) (w' : World) : Prop :=
  ∃ (v u : Value) (S T : List Nat), e = .returned (.tuple #[v, u, .bool R2]) ∧ At S (OwnS v R0) w' ∧ At T (OwnQ u R1) w' ∧ (∀ g ∈ S, g ∉ T) ∧ Within S w.heap.size w'.heap.size ∧ Within T w.heap.size w'.heap.size ∧ Below w.heap.size w w'
theorem postSb_eq {a r : SI} {b k : Bool} {w w' : World} {e : Ending} (h : PostSb a b w e w') (ha : a = r) (hb : b = k) : PostSb r k w e w' := by subst ha hb; exact h
end Go.Proofs.YthfkdofnoomhaaaGreatDoor

namespace Go.Proofs.YthfkdofnoomhaaaGreatDoor
open Go.RowKit

theorem modeB_in (m : Int) : inB m 0 6 = modeB m := rfl
set_option maxHeartbeats 400000 in
set_option maxRecDepth 100000 in
theorem l06Mode_any (m : Int) (w : World) : Calls Tryz.prog 62 #[.int .i64 m] w (Postb (modeB m) w) := by
  go_enter Tryz.func62, Tryz.ntmps62
  go_wp2_with fail
  refine (specIn_any m 0 6 (modeB m) _ (modeB_in m)).mono ?_
  rintro e w1 ⟨rfl, rfl⟩
  go_wp2
  go_ret
  exact ⟨rfl, Below.refl _ _⟩
/-- what a call answers that gives a string -/
def PostN (s : ByteArray) (w : World) (e : Ending) (w' : World) : Prop := e = .returned (.string s) ∧ Below w.heap.size w w'
theorem bytes_neM {a b : ByteArray} (h : ¬ a = b) : (a.toList == b.toList) = false := by
  rw [beq_eq_false_iff_ne]
  rw [ByteArray.toList_eq, ByteArray.toList_eq]
  exact fun e => h (WideShapes.bytes_inj e)
theorem bytes_eqM {a b : ByteArray} (h : a = b) : (a.toList == b.toList) = true := by subst h; exact beq_self_eq_true _
/-- impl's table of the modes -/
def modeCells : Array Value := #[.string ⟨#[100, 111, 119, 110]⟩, .func (.func 181) #[] #[], .string ⟨#[117, 112]⟩, .func (.func 182) #[] #[], .string ⟨#[102, 108, 111, 111, 114]⟩, .func (.func 183) #[] #[], .string ⟨#[99, 101, 105, 108]⟩, .func (.func 184) #[] #[], .string ⟨#[104, 97, 108, 102, 100, 111, 119, 110]⟩, .func (.func 185) #[] #[], .string ⟨#[104, 97, 108, 102, 117, 112]⟩, .func (.func 187) #[] #[], .string ⟨#[104, 97, 108, 102, 101, 118, 101, 110]⟩, .func (.func 188) #[] #[]]
set_option maxHeartbeats 1000000 in
set_option maxRecDepth 100000 in
theorem roundings_any (w : World) : Calls Tryz.prog 140 #[] w fun e w' => ∃ b : Nat, e = .returned (.slice (some ⟨b, 0, none⟩) 7 7) ∧ At [b] (BoxAt b modeCells 95) w' ∧ w.heap.size ≤ b ∧ Below w.heap.size w w' := by
  go_enter Tryz.func140, Tryz.ntmps140
  go_wp2
  go_ret
  exact ⟨_, rfl, box_new _ _ _, Nat.le_refl _, below_al (Below.refl _ _) _⟩
theorem below_set2M {W0 W : World} {g : Nat} {a b : Value} (h : Below W0.heap.size W0 W) (hg : W0.heap.size ≤ g) : Below W0.heap.size W0 ((W.setCell ⟨g, 0, none⟩ a).setCell ⟨g, 1, none⟩ b) := (h.setCell (p := ⟨g, 0, none⟩) hg _).setCell (p := ⟨g, 1, none⟩) hg _
/-- the function that impl's table holds for a mode -/
def fnOf (m : Int) : FuncId := if m = 0 then 181 else if m = 1 then 182 else if m = 2 then 183 else if m = 3 then 184 else if m = 4 then 185 else if m = 5 then 187 else 188
def PostRM (s : ByteArray) (f : Value) (b : Bool) (w : World) (e : Ending) (w' : World) : Prop := e = .returned (.tuple #[.agg #[.string s, f], .bool b]) ∧ Below w.heap.size w w'
set_option maxHeartbeats 4000000 in
set_option maxRecDepth 100000 in
theorem roundingOf_mode (m : Int) (hm : modeB m = true) (w : World) : Calls Tryz.prog 71 #[.int .i64 m] w (PostRM (nameB m) (.func (.func (fnOf m)) #[] #[]) true w) := by
  have bb0 : Below w.heap.size w (w.alloc (.cells #[.string ⟨#[]⟩, .nilFunc] 95)) := below_al (Below.refl _ _) _
  have ko := box_new w #[.string ⟨#[]⟩, .nilFunc] 95
  rcases modeB_cases hm with rfl | rfl | rfl | rfl | rfl | rfl | rfl
  · clear hm
    go_enter Tryz.func71, Tryz.ntmps71
    go_wp2_with fail
    refine (roundings_any _).mono ?_
    rintro e w1 ⟨b, rfl, kb, hb, b1⟩
    have bb1 := Below.next bb0 b1
    replace ko := ko.below b1
    have cb0 : w1.cell? ⟨b, 0, none⟩ = some (.string ⟨#[100, 111, 119, 110]⟩) := kb.here.cell 0 _ rfl
    have cb1 : w1.cell? ⟨b, 1, none⟩ = some (.func (.func 181) #[] #[]) := kb.here.cell 1 _ rfl
    have cz0 := ko.here.cell 0 _ rfl
    have cz1 := ko.here.cell 1 _ rfl
    have fz0 := Lib.frozen_of_heap ko.here 0
    have fz1 := Lib.frozen_of_heap ko.here 1
    go_wp2
    refine bodyPost_ret (v := .tuple #[.agg #[.string ⟨#[100, 111, 119, 110]⟩, .func (.func 181) #[] #[]], .bool true]) (by simp [results, Tryz.results71, go_sem, cz0, cz1]) rfl ?_
    exact ⟨rfl, below_set2M bb1 (Nat.le_refl _)⟩
  · clear hm
    go_enter Tryz.func71, Tryz.ntmps71
    go_wp2_with fail
    refine (roundings_any _).mono ?_
    rintro e w1 ⟨b, rfl, kb, hb, b1⟩
    have bb1 := Below.next bb0 b1
    replace ko := ko.below b1
    have cb0 : w1.cell? ⟨b, 2, none⟩ = some (.string ⟨#[117, 112]⟩) := kb.here.cell 2 _ rfl
    have cb1 : w1.cell? ⟨b, 3, none⟩ = some (.func (.func 182) #[] #[]) := kb.here.cell 3 _ rfl
    have cz0 := ko.here.cell 0 _ rfl
    have cz1 := ko.here.cell 1 _ rfl
    have fz0 := Lib.frozen_of_heap ko.here 0
    have fz1 := Lib.frozen_of_heap ko.here 1
    go_wp2
    refine bodyPost_ret (v := .tuple #[.agg #[.string ⟨#[117, 112]⟩, .func (.func 182) #[] #[]], .bool true]) (by simp [results, Tryz.results71, go_sem, cz0, cz1]) rfl ?_
    exact ⟨rfl, below_set2M bb1 (Nat.le_refl _)⟩
  · clear hm
    go_enter Tryz.func71, Tryz.ntmps71
    go_wp2_with fail
    refine (roundings_any _).mono ?_
    rintro e w1 ⟨b, rfl, kb, hb, b1⟩
    have bb1 := Below.next bb0 b1
    replace ko := ko.below b1
    have cb0 : w1.cell? ⟨b, 4, none⟩ = some (.string ⟨#[102, 108, 111, 111, 114]⟩) := kb.here.cell 4 _ rfl
    have cb1 : w1.cell? ⟨b, 5, none⟩ = some (.func (.func 183) #[] #[]) := kb.here.cell 5 _ rfl
    have cz0 := ko.here.cell 0 _ rfl
    have cz1 := ko.here.cell 1 _ rfl
    have fz0 := Lib.frozen_of_heap ko.here 0
    have fz1 := Lib.frozen_of_heap ko.here 1
    go_wp2
    refine bodyPost_ret (v := .tuple #[.agg #[.string ⟨#[102, 108, 111, 111, 114]⟩, .func (.func 183) #[] #[]], .bool true]) (by simp [results, Tryz.results71, go_sem, cz0, cz1]) rfl ?_
    exact ⟨rfl, below_set2M bb1 (Nat.le_refl _)⟩
  · clear hm
    go_enter Tryz.func71, Tryz.ntmps71
    go_wp2_with fail
    refine (roundings_any _).mono ?_
    rintro e w1 ⟨b, rfl, kb, hb, b1⟩
    have bb1 := Below.next bb0 b1
    replace ko := ko.below b1
    have cb0 : w1.cell? ⟨b, 6, none⟩ = some (.string ⟨#[99, 101, 105, 108]⟩) := kb.here.cell 6 _ rfl
    have cb1 : w1.cell? ⟨b, 7, none⟩ = some (.func (.func 184) #[] #[]) := kb.here.cell 7 _ rfl
    have cz0 := ko.here.cell 0 _ rfl
    have cz1 := ko.here.cell 1 _ rfl
    have fz0 := Lib.frozen_of_heap ko.here 0
    have fz1 := Lib.frozen_of_heap ko.here 1
    go_wp2
    refine bodyPost_ret (v := .tuple #[.agg #[.string ⟨#[99, 101, 105, 108]⟩, .func (.func 184) #[] #[]], .bool true]) (by simp [results, Tryz.results71, go_sem, cz0, cz1]) rfl ?_
    exact ⟨rfl, below_set2M bb1 (Nat.le_refl _)⟩
  · clear hm
    go_enter Tryz.func71, Tryz.ntmps71
    go_wp2_with fail
    refine (roundings_any _).mono ?_
    rintro e w1 ⟨b, rfl, kb, hb, b1⟩
    have bb1 := Below.next bb0 b1
    replace ko := ko.below b1
    have cb0 : w1.cell? ⟨b, 8, none⟩ = some (.string ⟨#[104, 97, 108, 102, 100, 111, 119, 110]⟩) := kb.here.cell 8 _ rfl
    have cb1 : w1.cell? ⟨b, 9, none⟩ = some (.func (.func 185) #[] #[]) := kb.here.cell 9 _ rfl
    have cz0 := ko.here.cell 0 _ rfl
    have cz1 := ko.here.cell 1 _ rfl
    have fz0 := Lib.frozen_of_heap ko.here 0
    have fz1 := Lib.frozen_of_heap ko.here 1
    go_wp2
    refine bodyPost_ret (v := .tuple #[.agg #[.string ⟨#[104, 97, 108, 102, 100, 111, 119, 110]⟩, .func (.func 185) #[] #[]], .bool true]) (by simp [results, Tryz.results71, go_sem, cz0, cz1]) rfl ?_
    exact ⟨rfl, below_set2M bb1 (Nat.le_refl _)⟩
  · clear hm
    go_enter Tryz.func71, Tryz.ntmps71
    go_wp2_with fail
    refine (roundings_any _).mono ?_
    rintro e w1 ⟨b, rfl, kb, hb, b1⟩
    have bb1 := Below.next bb0 b1
    replace ko := ko.below b1
    have cb0 : w1.cell? ⟨b, 10, none⟩ = some (.string ⟨#[104, 97, 108, 102, 117, 112]⟩) := kb.here.cell 10 _ rfl
    have cb1 : w1.cell? ⟨b, 11, none⟩ = some (.func (.func 187) #[] #[]) := kb.here.cell 11 _ rfl
    have cz0 := ko.here.cell 0 _ rfl
    have cz1 := ko.here.cell 1 _ rfl
    have fz0 := Lib.frozen_of_heap ko.here 0
    have fz1 := Lib.frozen_of_heap ko.here 1
    go_wp2
    refine bodyPost_ret (v := .tuple #[.agg #[.string ⟨#[104, 97, 108, 102, 117, 112]⟩, .func (.func 187) #[] #[]], .bool true]) (by simp [results, Tryz.results71, go_sem, cz0, cz1]) rfl ?_
    exact ⟨rfl, below_set2M bb1 (Nat.le_refl _)⟩
  · clear hm
    go_enter Tryz.func71, Tryz.ntmps71
    go_wp2_with fail
    refine (roundings_any _).mono ?_
    rintro e w1 ⟨b, rfl, kb, hb, b1⟩
    have bb1 := Below.next bb0 b1
    replace ko := ko.below b1
    have cb0 : w1.cell? ⟨b, 12, none⟩ = some (.string ⟨#[104, 97, 108, 102, 101, 118, 101, 110]⟩) := kb.here.cell 12 _ rfl
    have cb1 : w1.cell? ⟨b, 13, none⟩ = some (.func (.func 188) #[] #[]) := kb.here.cell 13 _ rfl
    have cz0 := ko.here.cell 0 _ rfl
    have cz1 := ko.here.cell 1 _ rfl
    have fz0 := Lib.frozen_of_heap ko.here 0
    have fz1 := Lib.frozen_of_heap ko.here 1
    go_wp2
    refine bodyPost_ret (v := .tuple #[.agg #[.string ⟨#[104, 97, 108, 102, 101, 118, 101, 110]⟩, .func (.func 188) #[] #[]], .bool true]) (by simp [results, Tryz.results71, go_sem, cz0, cz1]) rfl ?_
    exact ⟨rfl, below_set2M bb1 (Nat.le_refl _)⟩
set_option maxHeartbeats 4000000 in
set_option maxRecDepth 100000 in
theorem roundingOf_none (m : Int) (hm : ¬ modeB m = true) (w : World) : Calls Tryz.prog 71 #[.int .i64 m] w (PostRM ⟨#[]⟩ .nilFunc false w) := by
  have bb0 : Below w.heap.size w (w.alloc (.cells #[.string ⟨#[]⟩, .nilFunc] 95)) := below_al (Below.refl _ _) _
  have ko := box_new w #[.string ⟨#[]⟩, .nilFunc] 95
  have h6 := (modeB_false hm).2
  clear hm
  by_cases h0 : m < 0
  · clear h6
    go_enter Tryz.func71, Tryz.ntmps71
    go_wp2_with fail
    refine (roundings_any _).mono ?_
    rintro e w1 ⟨b, rfl, kb, hb, b1⟩
    have bb1 := Below.next bb0 b1
    replace ko := ko.below b1
    have cz0 := ko.here.cell 0 _ rfl
    have cz1 := ko.here.cell 1 _ rfl
    have fz0 := Lib.frozen_of_heap ko.here 0
    have fz1 := Lib.frozen_of_heap ko.here 1
    go_wp2
    refine bodyPost_ret (v := .tuple #[.agg #[.string ⟨#[]⟩, .nilFunc], .bool false]) (by simp [results, Tryz.results71, go_sem, cz0, cz1]) rfl ?_
    exact ⟨rfl, below_set2M bb1 (Nat.le_refl _)⟩
  · have h7 : ((7 : Nat) : Int) ≤ m := by omega
    clear h6
    go_enter Tryz.func71, Tryz.ntmps71
    go_wp2_with fail
    refine (roundings_any _).mono ?_
    rintro e w1 ⟨b, rfl, kb, hb, b1⟩
    have bb1 := Below.next bb0 b1
    replace ko := ko.below b1
    have cz0 := ko.here.cell 0 _ rfl
    have cz1 := ko.here.cell 1 _ rfl
    have fz0 := Lib.frozen_of_heap ko.here 0
    have fz1 := Lib.frozen_of_heap ko.here 1
    go_wp2
    refine bodyPost_ret (v := .tuple #[.agg #[.string ⟨#[]⟩, .nilFunc], .bool false]) (by simp [results, Tryz.results71, go_sem, cz0, cz1]) rfl ?_
    exact ⟨rfl, below_set2M bb1 (Nat.le_refl _)⟩
end Go.Proofs.YthfkdofnoomhaaaGreatDoor

namespace Go.Proofs.YthfkdofnoomhaaaGreatDoor
open Go.RowKit

theorem OwnI.belowI {v : Value} {xs : List Int} {w w' : World} (h : OwnI v xs w) (hb : Below w.heap.size w w') : OwnI v xs w' := own_below h hb
theorem ownI_eq {v : Value} {xs ys : List Int} {w : World} (h : OwnI v xs w) (e : xs = ys) : OwnI v ys w := e ▸ h
theorem ownI_lim {A : Option Addr} {c : Nat} {xs ys : List Int} {w : World} (h : OwnI (.slice A xs.length c) xs w) (e : xs = ys) : OwnI (.slice A ys.length c) ys w := e ▸ h
theorem roundVS_eq {x y : SI} {w w' : World} {e : Ending} (hxy : x = y) (h : NewV (fun u => OwnS u x) w e w') : NewV (fun u => OwnS u y) w e w' := hxy ▸ h
theorem chg_set2 {r : Nat} {c0 c1 : Value} {W : World} : Chg [r] W ((W.setCell ⟨r, 0, none⟩ c0).setCell ⟨r, 1, none⟩ c1) := ((Chg.refl _ _).setCell (by simp) _).setCell (by simp) _
/-- a result that lies in its cells at block r: a new signed number, with a bool and without -/
theorem newSb_at {r B : Nat} {S : List Nat} {c0 c1 : Value} {x : SI} {b : Bool} {w W : World} (o : At S (OwnS (.agg #[c0, c1]) x) W) (l : Within S B W.heap.size) (hrB : r < B) (hr : w.heap.size ≤ r) (hW : Below w.heap.size w W) :
    PostSb x b w (.returned (.tuple #[.agg #[c0, c1], .bool b])) ((W.setCell ⟨r, 0, none⟩ c0).setCell ⟨r, 1, none⟩ c1) := by
  have hc : Chg [r] W ((W.setCell ⟨r, 0, none⟩ c0).setCell ⟨r, 1, none⟩ c1) := chg_set2
  have hz := hc.size
  exact ⟨_, S, rfl, o.chg hc (fun i hi hm => by have := l i hi; simp at hm; omega), fun i hi => by have := l i hi; omega, below_set2 hW hr⟩
theorem newS_at {r B : Nat} {S : List Nat} {c0 c1 : Value} {x : SI} {w W : World} (o : At S (OwnS (.agg #[c0, c1]) x) W) (l : Within S B W.heap.size) (hrB : r < B) (hr : w.heap.size ≤ r) (hW : Below w.heap.size w W) :
    NewV (fun v => OwnS v x) w (.returned (.agg #[c0, c1])) ((W.setCell ⟨r, 0, none⟩ c0).setCell ⟨r, 1, none⟩ c1) := by
  have hc : Chg [r] W ((W.setCell ⟨r, 0, none⟩ c0).setCell ⟨r, 1, none⟩ c1) := chg_set2
  have hz := hc.size
  exact ⟨_, S, rfl, o.chg hc (fun i hi hm => by have := l i hi; simp at hm; omega), fun i hi => by have := l i hi; omega, below_set2 hW hr⟩
theorem ownS_zero (w : World) : OwnS (.agg #[.bool false, .slice none 0 0]) zeroS w := ⟨_, rfl, World.ownsRow_nil _ _ _ _⟩
theorem newSb_zero {w W : World} (b : Bool) (hW : Below w.heap.size w W) : PostSb zeroS b w (.returned (.tuple #[.agg #[.bool false, .slice none 0 0], .bool b])) W :=
  ⟨_, [], rfl, ⟨ownS_zero _, fun _ hg => absurd hg List.not_mem_nil, fun w' _ => ownS_zero w'⟩, fun _ hg => absurd hg List.not_mem_nil, hW⟩
/-- quotient and rest -/
theorem quot_rest {r : QI} : (nval r.1.2 / nval r.2).toNat = (topN r / denQ r : Nat) ∨ ¬ okQ r = true := by
  by_cases h : okQ r = true
  · have p := parts_of h
    refine .inl ?_
    rw [p.n, p.d, limbs_val, limbs_val]
    exact div_toNat _ _
  · exact .inr h
theorem quot_of {r : QI} (h : okQ r = true) : (nval r.1.2 / nval r.2).toNat = topN r / denQ r := by
  have p := parts_of h
  rw [p.n, p.d, limbs_val, limbs_val]
  exact div_toNat _ _
theorem rest_of {r : QI} (h : okQ r = true) : (nval r.1.2 % nval r.2).toNat = topN r % denQ r := by
  have p := parts_of h
  rw [p.n, p.d, limbs_val, limbs_val, ← Int.natCast_emod]
  exact Int.toNat_natCast _
/-- sizes of quotient and rest -/
theorem quot_len {r : QI} (h : okQ r = true) : (limbs (topN r / denQ r)).length ≤ 18 := limbs_length_le _ 18 (by
  have p := (parts_of h).nlt
  have := Nat.div_le_self (topN r) (denQ r)
  omega)
theorem rest_len {r : QI} (h : okQ r = true) : (limbs (topN r % denQ r)).length ≤ 18 := limbs_length_le _ 18 (by
  have p := (parts_of h).dlt
  have := Nat.mod_lt (topN r) (denQ_pos h)
  omega)
theorem even_limbs {k : Nat} (h : (limbs k).length ≤ 50) : evenB (limbs k) = decide (k % 2 = 0) := by
  unfold evenB
  rw [limbs_okL _ h, Bool.true_and]
  have e : (limbs k).headD 0 % 2 = ((k % 2 : Nat) : Int) := by
    by_cases h : k = 0
    · subst h; rw [limbs, dif_pos rfl]; rfl
    · rw [limbs, dif_neg h]
      show ((k % 1000000000 : Nat) : Int) % 2 = _
      omega
  rw [e, decide_eq_decide]
  omega
theorem round_plain {r : QI} {m : Int} (h : topN r % denQ r = 0 ∨ awayB r.1.1 (topN r / denQ r) (topN r % denQ r) (denQ r) m = false) : mkS r.1.1 (limbs (topN r / denQ r)) = roundS r m := by
  unfold roundS roundN
  rw [if_neg (fun e => by rcases h with h | h; exact e.1 h; rw [h] at e; exact absurd e.2 (by decide)), Nat.add_zero]
theorem round_more {r : QI} {m : Int} (h : topN r % denQ r ≠ 0) (ha : awayB r.1.1 (topN r / denQ r) (topN r % denQ r) (denQ r) m = true) : mkS r.1.1 (limbs (topN r / denQ r + 1)) = roundS r m := by
  unfold roundS roundN
  rw [if_pos ⟨h, ha⟩]
theorem one_more (Q : Nat) : trimL (addL (limbs Q) [1] 0) = limbs (Q + 1) := by
  have h := addL_val (limbs Q) [1] 0 (limbs_digN Q) (by rw [← one_limbs]; exact limbs_digN 1) (by omega) (by omega)
  rw [trim_limbs _ h.2.1, h.1, limbs_val]
  have : nval [1] = 1 := rfl
  rw [this, show ((Q : Int) + 1 + 0).toNat = Q + 1 by omega]
theorem twice_len {R : Nat} (h : (limbs R).length ≤ 18) : (addL (limbs R) (limbs R) 0).length ≤ 40 ∧ DigN (addL (limbs R) (limbs R) 0) ∧ (addL (limbs R) (limbs R) 0).getLastD 1 ≠ 0 ∧ nval (addL (limbs R) (limbs R) 0) = (R : Int) + R + 0 := by
  have hs := addL_val (limbs R) (limbs R) 0 (limbs_digN R) (limbs_digN R) (by omega) (by omega)
  rw [limbs_val] at hs
  exact ⟨by omega, hs.2.1, addL_last _ _ _ (limbs_digN R) (limbs_digN R) (by omega) (by omega) (limbs_lastN R) (limbs_lastN R), hs.1⟩
theorem awayB_0 (neg : Bool) (Q R D : Nat) : awayB neg Q R D 0 = false := rfl
theorem awayB_1 (neg : Bool) (Q R D : Nat) : awayB neg Q R D 1 = true := rfl
theorem awayB_2 (neg : Bool) (Q R D : Nat) : awayB neg Q R D 2 = neg := rfl
theorem awayB_3 (neg : Bool) (Q R D : Nat) : awayB neg Q R D 3 = !neg := rfl
theorem awayB_4 (neg : Bool) (Q R D : Nat) : awayB neg Q R D 4 = decide (D < 2 * R) := rfl
theorem awayB_5 (neg : Bool) (Q R D : Nat) : awayB neg Q R D 5 = decide (D ≤ 2 * R) := rfl
theorem awayB_6 (neg : Bool) (Q R D : Nat) : awayB neg Q R D 6 = (decide (D < 2 * R) || (decide (2 * R = D) && decide (Q % 2 = 1))) := rfl
/-- the modes that look at the half, by how twice the rest compares with the denominator -/
theorem away_cmp (neg : Bool) (Q R D : Nat) {c : Int} (h : cmpI ((R : Int) + R + 0) D = c) : awayB neg Q R D 4 = decide (0 < c) ∧ awayB neg Q R D 5 = decide (0 ≤ c) ∧ awayB neg Q R D 6 = (decide (0 < c) || (decide (c = 0) && decide (Q % 2 = 1))) := by
  have t := twice_cmp R D
  rw [h] at t
  rw [awayB_4, awayB_5, awayB_6, decide_eq_decide.2 t.1, decide_eq_decide.2 t.2.1, decide_eq_decide.2 t.2.2]
  exact ⟨rfl, rfl, rfl⟩
theorem cmp_three (x y : Int) : cmpI x y = -1 ∨ cmpI x y = 0 ∨ cmpI x y = 1 := by unfold cmpI; split; exact .inl rfl; split; exact .inr (.inr rfl); exact .inr (.inl rfl)
theorem den_cmp {r : QI} {n : Int} (ok : okQ r = true) : decide ((denQ r : Int) = n) = (cmpI (nval r.2) n == 0) := by
  have e : nval r.2 = (denQ r : Int) := by
    have p := (parts_of ok).d
    unfold denQ
    rw [p, limbs_val, Int.toNat_natCast]
  rw [e, Bool.eq_iff_iff, decide_eq_true_eq, beq_iff_eq]
  unfold cmpI
  split
  · omega
  · split <;> omega
theorem wholeB_cmp {r : QI} (ok : okQ r = true) : wholeB r = (cmpI (nval r.2) (nval [1]) == 0) := by
  rw [← den_cmp ok]
  unfold wholeB
  rw [ok, Bool.true_and, decide_eq_decide]
  show _ ↔ (denQ r : Int) = 1
  omega
theorem halfB_cmp {r : QI} (ok : okQ r = true) : halfB r = (cmpI (nval r.2) (nval [2]) == 0) := by
  rw [← den_cmp ok]
  unfold halfB
  rw [ok, Bool.true_and, decide_eq_decide]
  show _ ↔ (denQ r : Int) = 2
  omega
theorem dig_1 : DigN [1] := by rw [← one_limbs]; exact limbs_digN 1
theorem two_limbs : limbs 2 = [2] := by rw [limbs, dif_neg (by decide), limbs, dif_pos (by decide)]; rfl
theorem dig_2 : DigN [2] := by rw [← two_limbs]; exact limbs_digN 2
theorem limbs_none_iff {n : Nat} : (limbs n).length = 0 ↔ n = 0 := limbs_zero_iff n
end Go.Proofs.YthfkdofnoomhaaaGreatDoor

namespace Go.Proofs.YthfkdofnoomhaaaGreatDoor
open Go.RowKit

set_option maxHeartbeats 2000000 in
set_option maxRecDepth 100000 in
theorem specRatAdd_any (vr : Value) (vs : Value) (r s : QI) (w : World) (hzr : szQ r ≤ 1048576) (hzs : szQ s ≤ 1048576) (hr : OwnQ vr r w) (hs : OwnQ vs s w) :
    Calls Tryz.prog 174 #[vr, vs] w (PostQb (addQ r s).1 (addQ r s).2 w) := by
  have Hr := Lib.hid hr
  obtain ⟨Ar, cr, Br, dr, rfl⟩ := ownQ_form hr
  have OQr := Lib.hid (show ∀ W, Below w.heap.size w W → OwnQ (.agg #[.bool r.1.1, .slice Ar r.1.2.length cr, .slice Br r.2.length dr]) r W from fun W hb => OwnQ.below Hr.out hb)
  have OUr := Lib.hid (show ∀ W, Below w.heap.size w W → OwnI (.slice Ar r.1.2.length cr) r.1.2 W from fun W hb => (ownQ_open (OQr.out W hb)).2.1)
  have ODr := Lib.hid (show ∀ W, Below w.heap.size w W → OwnI (.slice Br r.2.length dr) r.2 W from fun W hb => (ownQ_open (OQr.out W hb)).2.2.1)
  have OSr := Lib.hid (show ∀ W, Below w.heap.size w W → OwnS (.agg #[.bool r.1.1, .slice Ar r.1.2.length cr]) r.1 W from fun W hb => OwnS.mk (OUr.out W hb))
  clear hr
  have Hs := Lib.hid hs
  obtain ⟨As, cs, Bs, ds, rfl⟩ := ownQ_form hs
  have OQs := Lib.hid (show ∀ W, Below w.heap.size w W → OwnQ (.agg #[.bool s.1.1, .slice As s.1.2.length cs, .slice Bs s.2.length ds]) s W from fun W hb => OwnQ.below Hs.out hb)
  have OUs := Lib.hid (show ∀ W, Below w.heap.size w W → OwnI (.slice As s.1.2.length cs) s.1.2 W from fun W hb => (ownQ_open (OQs.out W hb)).2.1)
  have ODs := Lib.hid (show ∀ W, Below w.heap.size w W → OwnI (.slice Bs s.2.length ds) s.2 W from fun W hb => (ownQ_open (OQs.out W hb)).2.2.1)
  have OSs := Lib.hid (show ∀ W, Below w.heap.size w W → OwnS (.agg #[.bool s.1.1, .slice As s.1.2.length cs]) s.1 W from fun W hb => OwnS.mk (OUs.out W hb))
  clear hs
  have hlr := szQ_len hzr
  have hl1r := hlr.1
  have hl2r := hlr.2
  clear hlr
  have hls := szQ_len hzs
  have hl1s := hls.1
  have hl2s := hls.2
  clear hls
  have bb0 : Below w.heap.size w (((w.alloc (.cells #[.bool r.1.1, .slice Ar r.1.2.length cr, .slice Br r.2.length dr] 34)).alloc (.cells #[.bool s.1.1, .slice As s.1.2.length cs, .slice Bs s.2.length ds] 34)).alloc (.cells #[.bool false, .slice none 0 0, .slice none 0 0] 34)) := below_al (below_al (below_al (Below.refl _ _) _) _) _
  have kr := (box_new w #[.bool r.1.1, .slice Ar r.1.2.length cr, .slice Br r.2.length dr] 34).below (below_al (below_al (Below.refl _ _) (.cells #[.bool s.1.1, .slice As s.1.2.length cs, .slice Bs s.2.length ds] 34)) (.cells #[.bool false, .slice none 0 0, .slice none 0 0] 34))
  have ks := (box_new (w.alloc (.cells #[.bool r.1.1, .slice Ar r.1.2.length cr, .slice Br r.2.length dr] 34)) #[.bool s.1.1, .slice As s.1.2.length cs, .slice Bs s.2.length ds] 34).below (below_al (Below.refl _ _) (.cells #[.bool false, .slice none 0 0, .slice none 0 0] 34))
  rw [show (w.alloc (.cells #[.bool r.1.1, .slice Ar r.1.2.length cr, .slice Br r.2.length dr] 34)).heap.size = w.heap.size + 1 by simp] at ks
  have ko := (box_new ((w.alloc (.cells #[.bool r.1.1, .slice Ar r.1.2.length cr, .slice Br r.2.length dr] 34)).alloc (.cells #[.bool s.1.1, .slice As s.1.2.length cs, .slice Bs s.2.length ds] 34)) #[.bool false, .slice none 0 0, .slice none 0 0] 34)
  rw [show ((w.alloc (.cells #[.bool r.1.1, .slice Ar r.1.2.length cr, .slice Br r.2.length dr] 34)).alloc (.cells #[.bool s.1.1, .slice As s.1.2.length cs, .slice Bs s.2.length ds] 34)).heap.size = w.heap.size + 1 + 1 by simp] at ko
  go_enter Tryz.func174, Tryz.ntmps174
  have kr_c0 := kr.here.cell 0 _ rfl
  have kr_c1 := kr.here.cell 1 _ rfl
  have kr_c2 := kr.here.cell 2 _ rfl
  go_wp2_with fail
  clear kr_c0 kr_c1 kr_c2
  refine (specRatOk_any _ r _ hzr (OQr.out _ bb0)).mono ?_
  rintro e w1 ⟨rfl, b1⟩
  have bb1 := Below.next bb0 b1
  replace kr := kr.below b1
  replace ks := ks.below b1
  replace ko := ko.below b1
  by_cases okr : okQ r = true
  · rw [okr]
    have HOr := Lib.hid okr
    clear okr
    have ks_c0 := ks.here.cell 0 _ rfl
    have ks_c1 := ks.here.cell 1 _ rfl
    have ks_c2 := ks.here.cell 2 _ rfl
    go_wp2_with fail
    clear ks_c0 ks_c1 ks_c2
    refine (specRatOk_any _ s _ hzs (OQs.out _ bb1)).mono ?_
    rintro e w2 ⟨rfl, b2⟩
    have bb2 := Below.next bb1 b2
    replace kr := kr.below b2
    replace ks := ks.below b2
    replace ko := ko.below b2
    by_cases oks : okQ s = true
    · rw [oks]
      have HOs := Lib.hid oks
      clear oks
      have Pr := parts_of HOr.out
      have Ps := parts_of HOs.out
      have HPr := Lib.hid Pr
      have HPs := Lib.hid Ps
      have hnr := Pr.n50
      have hns := Ps.n50
      have hdr := Pr.d50
      have hds := Ps.d50
      clear Pr Ps
      obtain ⟨X1, hEX1⟩ : ∃ X1, (nval (r.1.2) * nval (s.2)).toNat = X1 := ⟨_, rfl⟩
      have EX1 := Lib.hid hEX1
      have PX1 := Lib.hid (show X1 = topN r * denQ s by rw [← hEX1, mul_toNat (okS_parts HPr.out.okn).1 HPs.out.okd]; rfl)
      have LX1 := Lib.hid (show (limbs X1).length ≤ 36 by rw [PX1.out]; exact prod_len HPr.out.nlt HPs.out.dlt)
      clear hEX1
      obtain ⟨X2, hEX2⟩ : ∃ X2, (nval (s.1.2) * nval (r.2)).toNat = X2 := ⟨_, rfl⟩
      have EX2 := Lib.hid hEX2
      have PX2 := Lib.hid (show X2 = topN s * denQ r by rw [← hEX2, mul_toNat (okS_parts HPs.out.okn).1 HPr.out.okd]; rfl)
      have LX2 := Lib.hid (show (limbs X2).length ≤ 36 by rw [PX2.out]; exact prod_len HPs.out.nlt HPr.out.dlt)
      clear hEX2
      obtain ⟨X3, hEX3⟩ : ∃ X3, (nval (r.2) * nval (s.2)).toNat = X3 := ⟨_, rfl⟩
      have EX3 := Lib.hid hEX3
      have PX3 := Lib.hid (show X3 = denQ r * denQ s by rw [← hEX3, mul_toNat HPr.out.okd HPs.out.okd]; rfl)
      have LX3 := Lib.hid (show (limbs X3).length ≤ 36 by rw [PX3.out]; exact prod_len HPr.out.dlt HPs.out.dlt)
      clear hEX3
      obtain ⟨P1, hEP1⟩ : ∃ P1, mkS r.1.1 (limbs X1) = P1 := ⟨_, rfl⟩
      have EP1 := Lib.hid hEP1
      have VP1 := Lib.hid (show okS P1 = true ∧ valS P1 = numQ r * denQ s ∧ P1.2.length ≤ 50 ∧ -(bp 36) < valS P1 ∧ valS P1 < bp 36 by
        rw [← hEP1, PX1.out]
        have h1 := cross_ofZ (n := r.1.1) (X := topN r) (Y := denQ s)
        have h2 := cross_val (n := r.1.1) HPr.out.nlt HPs.out.dlt
        have h3 := cross_lt (n := r.1.1) HPr.out.nlt HPs.out.dlt
        have h4 : valS (mkS r.1.1 (limbs (topN r * denQ s))) = numQ r * denQ s := by rw [h2, HPr.out.top]
        exact ⟨h1.2.1, h4, h1.2.2, by rw [h2]; exact h3.1, by rw [h2]; exact h3.2⟩)
      clear hEP1
      obtain ⟨P2, hEP2⟩ : ∃ P2, mkS s.1.1 (limbs X2) = P2 := ⟨_, rfl⟩
      have EP2 := Lib.hid hEP2
      have VP2 := Lib.hid (show okS P2 = true ∧ valS P2 = numQ s * denQ r ∧ P2.2.length ≤ 50 ∧ -(bp 36) < valS P2 ∧ valS P2 < bp 36 by
        rw [← hEP2, PX2.out]
        have h1 := cross_ofZ (n := s.1.1) (X := topN s) (Y := denQ r)
        have h2 := cross_val (n := s.1.1) HPs.out.nlt HPr.out.dlt
        have h3 := cross_lt (n := s.1.1) HPs.out.nlt HPr.out.dlt
        have h4 : valS (mkS s.1.1 (limbs (topN s * denQ r))) = numQ s * denQ r := by rw [h2, HPs.out.top]
        exact ⟨h1.2.1, h4, h1.2.2, by rw [h2]; exact h3.1, by rw [h2]; exact h3.2⟩)
      clear hEP2
      obtain ⟨N, hN⟩ : ∃ N, ofZ (valS P1 + valS P2) = N := ⟨_, rfl⟩
      have EN := Lib.hid hN
      have b37 := bp37
      have SN := sum_ofZ (z := valS P1 + valS P2) (by have := VP1.out; have := VP2.out; omega) (by have := VP1.out; have := VP2.out; omega)
      obtain ⟨X4, hX4⟩ : ∃ X4, (valS P1 + valS P2).natAbs = X4 := ⟨_, rfl⟩
      rw [hN, hX4] at SN
      have N1 := Lib.hid (show N.1 = decide (numQ r * denQ s + numQ s * denQ r < 0) by rw [SN.1, VP1.out.2.1, VP2.out.2.1])
      have N2 := Lib.hid (show N.2 = limbs X4 by rw [SN.1])
      have L4 := Lib.hid SN.2
      have HV := Lib.hid (show addQ r s = lowQ N.1 X4 X3 by unfold addQ; rw [if_pos ⟨HOr.out, HOs.out⟩, N1.out, ← hX4, VP1.out.2.1, VP2.out.2.1, PX3.out])
      clear hN hX4 SN b37
      have hkr := kr.lt _ (List.mem_singleton.2 rfl)
      have hks := ks.lt _ (List.mem_singleton.2 rfl)
      have hko := ko.lt (w.heap.size + 1 + 1) (by simp)
      have kr_c0 := kr.here.cell 0 _ rfl
      have kr_c1 := kr.here.cell 1 _ rfl
      have kr_c2 := kr.here.cell 2 _ rfl
      have ks_c0 := ks.here.cell 0 _ rfl
      have ks_c1 := ks.here.cell 1 _ rfl
      have ks_c2 := ks.here.cell 2 _ rfl
      go_upto_region 7 with fail
      go_cut [6] (fun s wx => NewLocV 28 (fun v => OwnS v P1) w2 s wx)
      case first =>
        have HC0 := Lib.hid (show Chg [] w2 w2.drew from (Chg.refl _ _).drew1)
        have HCr := Lib.hid (show Chg [] w2 w2 from Chg.refl _ _)
        have KL := Lib.hid (show ∀ W, Chg [] w2 W → W.cell? ⟨w.heap.size, 0, none⟩ = some (.bool r.1.1) ∧ W.cell? ⟨w.heap.size, 1, none⟩ = some (.slice Ar r.1.2.length cr) ∧ W.cell? ⟨w.heap.size, 2, none⟩ = some (.slice Br r.2.length dr) ∧ W.cell? ⟨w.heap.size + 1, 0, none⟩ = some (.bool s.1.1) ∧ W.cell? ⟨w.heap.size + 1, 1, none⟩ = some (.slice As s.1.2.length cs) ∧ W.cell? ⟨w.heap.size + 1, 2, none⟩ = some (.slice Bs s.2.length ds) ∧ Hid (Chg [] w2 W) from fun W hc => ⟨(kr.chg hc (fun i hi hm => by simp at hm)).here.cell 0 _ rfl, (kr.chg hc (fun i hi hm => by simp at hm)).here.cell 1 _ rfl, (kr.chg hc (fun i hi hm => by simp at hm)).here.cell 2 _ rfl, (ks.chg hc (fun i hi hm => by simp at hm)).here.cell 0 _ rfl, (ks.chg hc (fun i hi hm => by simp at hm)).here.cell 1 _ rfl, (ks.chg hc (fun i hi hm => by simp at hm)).here.cell 2 _ rfl, Lib.hid hc⟩)
        have BBF := Lib.hid (show ∀ W, Chg [] w2 W → Below w.heap.size w W from fun W hc => below_chg bb2 hc bb2.size (fun i hi => by simp at hi))
        clear kr_c0 kr_c1 kr_c2 ks_c0 ks_c1 ks_c2
        go_region_held3 (fun W => W.cell? ⟨w.heap.size, 0, none⟩ = some (.bool r.1.1) ∧ W.cell? ⟨w.heap.size, 1, none⟩ = some (.slice Ar r.1.2.length cr) ∧ W.cell? ⟨w.heap.size, 2, none⟩ = some (.slice Br r.2.length dr) ∧ W.cell? ⟨w.heap.size + 1, 0, none⟩ = some (.bool s.1.1) ∧ W.cell? ⟨w.heap.size + 1, 1, none⟩ = some (.slice As s.1.2.length cs) ∧ W.cell? ⟨w.heap.size + 1, 2, none⟩ = some (.slice Bs s.2.length ds) ∧ Hid (Chg [] w2 W))
          ((refine KL.out _ ?_; (first | exact HC4.out | exact HC3.out | exact HCr.out | exact HC0.out | exact HC4.out.drew1 | exact HC3.out.drew1 | exact HCr.out.drew1 | exact HC0.out.drew1 | exact HC4.out.trans (Chg.of_below (below_al (Below.refl _ _) _)) | exact HC3.out.trans (Chg.of_below (below_al (Below.refl _ _) _)) | exact HCr.out.trans (Chg.of_below (below_al (Below.refl _ _) _)) | exact HC0.out.trans (Chg.of_below (below_al (Below.refl _ _) _)) | exact (Chg.setNew HC4.out (by first | exact HC4.out.size | exact HC3.out.size | exact HCr.out.size | exact HC0.out.size) _) | exact (Chg.setNew (Chg.setNew HC4.out (by first | exact HC4.out.size | exact HC3.out.size | exact HCr.out.size | exact HC0.out.size) _) (by first | exact HC4.out.size | exact HC3.out.size | exact HCr.out.size | exact HC0.out.size) _) | fail)))
          (first
            | (go_at_call 63; (have hBB := (‹_ ∧ _ ∧ _ ∧ _ ∧ _ ∧ _ ∧ Hid (Chg [] w2 _)›).2.2.2.2.2.2); (with_reducible refine (mulX_any _ _ (r.1.2) (s.2) X1 _ hnr hds ((okS_parts HPr.out.okn).1) (HPs.out.okd) EX1.out (OUr.out _ (BBF.out _ hBB.out)) (ODs.out _ (BBF.out _ hBB.out))).mono ?_); rintro e w3 ⟨um, Sm, rfl, om, lm, b3⟩; have HC3 := Lib.hid (hBB.out.trans (Chg.of_below b3)); obtain ⟨Em, em, rfl⟩ := own_len om.here; (first | (have early3 : At [w2.heap.size] (BoxAt w2.heap.size #[.bool false, .slice none 0 0] 28) w3 := At.below (box_new w2.drew _ _) b3) | (have early3 := At.below (box_new _ #[.bool false, .slice none 0 0] 28) b3) | (have early3 := At.below early2 b3) | skip); have HBZ3 := Lib.hid hBB.out.size; clear hBB)
            | (go_at_call 69; (have hBB := (‹_ ∧ _ ∧ _ ∧ _ ∧ _ ∧ _ ∧ Hid (Chg [] w2 _)›).2.2.2.2.2.2); (with_reducible refine (makeX_any _ _ X1 P1 _ (Nat.le_trans LX1.out (by decide)) EP1.out (At.here (by first | exact om | exact At.below om (below_al (Below.refl _ _) _) | exact At.below (At.below om (below_al (Below.refl _ _) _)) (below_al (Below.refl _ _) _) | exact At.move om (fun _ _ => rfl) (Nat.le_refl _)))).mono ?_); rintro e w4 ⟨uf, Sf, rfl, of, lf, b4⟩; have HC4 := Lib.hid (hBB.out.trans (Chg.of_below b4)); (have om_4 := At.below (by first | exact om | exact At.below om (below_al (Below.refl _ _) _) | exact At.below (At.below om (below_al (Below.refl _ _) _)) (below_al (Below.refl _ _) _) | exact At.move om (fun _ _ => rfl) (Nat.le_refl _)) b4); obtain ⟨Af, cf, rfl⟩ := ownS_form of.here; (first | have hbxg := At.below_lt (box_new _ #[.bool false, .slice none 0 0] 28) b4 | have hbxg := At.below_lt early3 b4 | skip); (try (have hbxf := hbxg.1; have HGB := Lib.hid hbxg.2; clear hbxg)); (try (have cz0 := hbxf.here.cell 0 _ rfl; have fz0 := Lib.frozen_of_heap hbxf.here 0; have cz1 := hbxf.here.cell 1 _ rfl; have fz1 := Lib.frozen_of_heap hbxf.here 1)); have HBZ4 := Lib.hid hBB.out.size; clear hBB))
        all_goals (go_wp2_with fail; go_meet; first | exact newLocV_last of lf HBZ4.out (below_of_chg HC4.out) | exact newLocV_early2 hbxf.here of lf (by first | exact HC3.out.size | exact HCr.out.size | exact HC0.out.size) HGB.out (below_of_chg HC4.out))
      rename World => w3
      clear kr_c0 kr_c1 kr_c2 ks_c0 ks_c1 ks_c2
      obtain ⟨ga, csa, Sa, rfl, ka, oa, na, la, b3⟩ := hcut
      obtain ⟨Aa, ca, ea⟩ := ownS_form oa.here
      injection ea with ea
      subst ea
      have bb3 := Below.next bb2 b3
      replace kr := kr.below b3
      replace ks := ks.below b3
      replace ko := ko.below b3
      have kr_c0 := kr.here.cell 0 _ rfl
      have kr_c1 := kr.here.cell 1 _ rfl
      have kr_c2 := kr.here.cell 2 _ rfl
      have ks_c0 := ks.here.cell 0 _ rfl
      have ks_c1 := ks.here.cell 1 _ rfl
      have ks_c2 := ks.here.cell 2 _ rfl
      go_upto_region 8 with fail
      go_cut [7] (fun s wx => NewLocV 28 (fun v => OwnS v P2) w3 s wx)
      case first =>
        have HC0 := Lib.hid (show Chg [] w3 w3.drew from (Chg.refl _ _).drew1)
        have HCr := Lib.hid (show Chg [] w3 w3 from Chg.refl _ _)
        have KL := Lib.hid (show ∀ W, Chg [] w3 W → W.cell? ⟨w.heap.size, 0, none⟩ = some (.bool r.1.1) ∧ W.cell? ⟨w.heap.size, 1, none⟩ = some (.slice Ar r.1.2.length cr) ∧ W.cell? ⟨w.heap.size, 2, none⟩ = some (.slice Br r.2.length dr) ∧ W.cell? ⟨w.heap.size + 1, 0, none⟩ = some (.bool s.1.1) ∧ W.cell? ⟨w.heap.size + 1, 1, none⟩ = some (.slice As s.1.2.length cs) ∧ W.cell? ⟨w.heap.size + 1, 2, none⟩ = some (.slice Bs s.2.length ds) ∧ Hid (Chg [] w3 W) from fun W hc => ⟨(kr.chg hc (fun i hi hm => by simp at hm)).here.cell 0 _ rfl, (kr.chg hc (fun i hi hm => by simp at hm)).here.cell 1 _ rfl, (kr.chg hc (fun i hi hm => by simp at hm)).here.cell 2 _ rfl, (ks.chg hc (fun i hi hm => by simp at hm)).here.cell 0 _ rfl, (ks.chg hc (fun i hi hm => by simp at hm)).here.cell 1 _ rfl, (ks.chg hc (fun i hi hm => by simp at hm)).here.cell 2 _ rfl, Lib.hid hc⟩)
        have BBF := Lib.hid (show ∀ W, Chg [] w3 W → Below w.heap.size w W from fun W hc => below_chg bb3 hc bb3.size (fun i hi => by simp at hi))
        clear kr_c0 kr_c1 kr_c2 ks_c0 ks_c1 ks_c2
        go_region_held3 (fun W => W.cell? ⟨w.heap.size, 0, none⟩ = some (.bool r.1.1) ∧ W.cell? ⟨w.heap.size, 1, none⟩ = some (.slice Ar r.1.2.length cr) ∧ W.cell? ⟨w.heap.size, 2, none⟩ = some (.slice Br r.2.length dr) ∧ W.cell? ⟨w.heap.size + 1, 0, none⟩ = some (.bool s.1.1) ∧ W.cell? ⟨w.heap.size + 1, 1, none⟩ = some (.slice As s.1.2.length cs) ∧ W.cell? ⟨w.heap.size + 1, 2, none⟩ = some (.slice Bs s.2.length ds) ∧ Hid (Chg [] w3 W))
          ((refine KL.out _ ?_; (first | exact HC5.out | exact HC4.out | exact HCr.out | exact HC0.out | exact HC5.out.drew1 | exact HC4.out.drew1 | exact HCr.out.drew1 | exact HC0.out.drew1 | exact HC5.out.trans (Chg.of_below (below_al (Below.refl _ _) _)) | exact HC4.out.trans (Chg.of_below (below_al (Below.refl _ _) _)) | exact HCr.out.trans (Chg.of_below (below_al (Below.refl _ _) _)) | exact HC0.out.trans (Chg.of_below (below_al (Below.refl _ _) _)) | exact (Chg.setNew HC5.out (by first | exact HC5.out.size | exact HC4.out.size | exact HCr.out.size | exact HC0.out.size) _) | exact (Chg.setNew (Chg.setNew HC5.out (by first | exact HC5.out.size | exact HC4.out.size | exact HCr.out.size | exact HC0.out.size) _) (by first | exact HC5.out.size | exact HC4.out.size | exact HCr.out.size | exact HC0.out.size) _) | fail)))
          (first
            | (go_at_call 63; (have hBB := (‹_ ∧ _ ∧ _ ∧ _ ∧ _ ∧ _ ∧ Hid (Chg [] w3 _)›).2.2.2.2.2.2); (with_reducible refine (mulX_any _ _ (s.1.2) (r.2) X2 _ hns hdr ((okS_parts HPs.out.okn).1) (HPr.out.okd) EX2.out (OUs.out _ (BBF.out _ hBB.out)) (ODr.out _ (BBF.out _ hBB.out))).mono ?_); rintro e w4 ⟨um, Sm, rfl, om, lm, b4⟩; have HC4 := Lib.hid (hBB.out.trans (Chg.of_below b4)); obtain ⟨Em, em, rfl⟩ := own_len om.here; (first | (have early4 : At [w3.heap.size] (BoxAt w3.heap.size #[.bool false, .slice none 0 0] 28) w4 := At.below (box_new w3.drew _ _) b4) | (have early4 := At.below (box_new _ #[.bool false, .slice none 0 0] 28) b4) | (have early4 := At.below early3 b4) | skip); have HBZ4 := Lib.hid hBB.out.size; clear hBB)
            | (go_at_call 69; (have hBB := (‹_ ∧ _ ∧ _ ∧ _ ∧ _ ∧ _ ∧ Hid (Chg [] w3 _)›).2.2.2.2.2.2); (with_reducible refine (makeX_any _ _ X2 P2 _ (Nat.le_trans LX2.out (by decide)) EP2.out (At.here (by first | exact om | exact At.below om (below_al (Below.refl _ _) _) | exact At.below (At.below om (below_al (Below.refl _ _) _)) (below_al (Below.refl _ _) _) | exact At.move om (fun _ _ => rfl) (Nat.le_refl _)))).mono ?_); rintro e w5 ⟨uf, Sf, rfl, of, lf, b5⟩; have HC5 := Lib.hid (hBB.out.trans (Chg.of_below b5)); (have om_5 := At.below (by first | exact om | exact At.below om (below_al (Below.refl _ _) _) | exact At.below (At.below om (below_al (Below.refl _ _) _)) (below_al (Below.refl _ _) _) | exact At.move om (fun _ _ => rfl) (Nat.le_refl _)) b5); obtain ⟨Af, cf, rfl⟩ := ownS_form of.here; (first | have hbxg := At.below_lt (box_new _ #[.bool false, .slice none 0 0] 28) b5 | have hbxg := At.below_lt early4 b5 | skip); (try (have hbxf := hbxg.1; have HGB := Lib.hid hbxg.2; clear hbxg)); (try (have cz0 := hbxf.here.cell 0 _ rfl; have fz0 := Lib.frozen_of_heap hbxf.here 0; have cz1 := hbxf.here.cell 1 _ rfl; have fz1 := Lib.frozen_of_heap hbxf.here 1)); have HBZ5 := Lib.hid hBB.out.size; clear hBB))
        all_goals (go_wp2_with fail; go_meet; first | exact newLocV_last of lf HBZ5.out (below_of_chg HC5.out) | exact newLocV_early2 hbxf.here of lf (by first | exact HC4.out.size | exact HCr.out.size | exact HC0.out.size) HGB.out (below_of_chg HC5.out))
      rename World => w4
      clear kr_c0 kr_c1 kr_c2 ks_c0 ks_c1 ks_c2
      obtain ⟨gb, csb, Sb, rfl, kb, ob, nb, lb, b4⟩ := hcut
      obtain ⟨Ab, cb, eb⟩ := ownS_form ob.here
      injection eb with eb
      subst eb
      have bb4 := Below.next bb3 b4
      replace kr := kr.below b4
      replace ks := ks.below b4
      replace ko := ko.below b4
      replace ka := ka.below b4
      replace oa := oa.below b4
      have ka_c0 := ka.here.cell 0 _ rfl
      have ka_c1 := ka.here.cell 1 _ rfl
      have kb_c0 := kb.here.cell 0 _ rfl
      have kb_c1 := kb.here.cell 1 _ rfl
      go_wp2_with fail
      clear ka_c0 ka_c1 kb_c0 kb_c1
      refine (addX_any _ _ P1 P2 N _ VP1.out.1 VP2.out.1 EN.out oa.here ob.here).mono ?_
      rintro e w5 ⟨un, Sn, rfl, on, ln, b5⟩
      obtain ⟨An, cn, rfl⟩ := ownS_form on.here
      have bb5 := Below.next bb4 b5
      replace kr := kr.below b5
      replace ks := ks.below b5
      replace ko := ko.below b5
      replace ka := ka.below b5
      replace oa := oa.below b5
      replace kb := kb.below b5
      replace ob := ob.below b5
      have kn := box_new w5 #[.bool N.1, .slice An N.2.length cn] 28
      have bbx := Below.next bb5 (below_al (Below.refl w5.heap.size w5) (.cells #[.bool N.1, .slice An N.2.length cn] 28))
      have hko2 := ko.lt (w.heap.size + 1 + 1) (by simp)
      replace kr := kr.below (below_al (Below.refl w5.heap.size w5) (.cells #[.bool N.1, .slice An N.2.length cn] 28))
      replace ks := ks.below (below_al (Below.refl w5.heap.size w5) (.cells #[.bool N.1, .slice An N.2.length cn] 28))
      replace ko := ko.below (below_al (Below.refl w5.heap.size w5) (.cells #[.bool N.1, .slice An N.2.length cn] 28))
      replace on := on.below (below_al (Below.refl w5.heap.size w5) (.cells #[.bool N.1, .slice An N.2.length cn] 28))
      obtain ⟨Wn, hWn⟩ : ∃ Wn, Wn = w5.alloc (.cells #[.bool N.1, .slice An N.2.length cn] 28) := ⟨_, rfl⟩
      rw [← hWn] at kn bbx kr ks ko on
      have HWN := Lib.hid hWn
      have hWz : Wn.heap.size = w5.heap.size + 1 := by rw [hWn]; simp
      clear hWn
      have kr_c0 := kr.here.cell 0 _ rfl
      have kr_c1 := kr.here.cell 1 _ rfl
      have kr_c2 := kr.here.cell 2 _ rfl
      have ks_c0 := ks.here.cell 0 _ rfl
      have ks_c1 := ks.here.cell 1 _ rfl
      have ks_c2 := ks.here.cell 2 _ rfl
      have kn_c0 := kn.here.cell 0 _ rfl
      have kn_c1 := kn.here.cell 1 _ rfl
      go_wp2_with fail
      rw [← HWN.out]
      clear kr_c0 kr_c1 kr_c2 ks_c0 ks_c1 ks_c2 kn_c0 kn_c1
      have HC0 := Lib.hid (show Chg [w.heap.size + 1 + 1] Wn Wn.drew from (Chg.refl _ _).drew1)
      have HCr := Lib.hid (show Chg [w.heap.size + 1 + 1] Wn Wn from Chg.refl _ _)
      have KL := Lib.hid (show ∀ W, Chg [w.heap.size + 1 + 1] Wn W → W.cell? ⟨w.heap.size, 0, none⟩ = some (.bool r.1.1) ∧ W.cell? ⟨w.heap.size, 1, none⟩ = some (.slice Ar r.1.2.length cr) ∧ W.cell? ⟨w.heap.size, 2, none⟩ = some (.slice Br r.2.length dr) ∧ W.cell? ⟨w.heap.size + 1, 0, none⟩ = some (.bool s.1.1) ∧ W.cell? ⟨w.heap.size + 1, 1, none⟩ = some (.slice As s.1.2.length cs) ∧ W.cell? ⟨w.heap.size + 1, 2, none⟩ = some (.slice Bs s.2.length ds) ∧ W.cell? ⟨w5.heap.size, 0, none⟩ = some (.bool N.1) ∧ W.cell? ⟨w5.heap.size, 1, none⟩ = some (.slice An N.2.length cn) ∧ Hid (Chg [w.heap.size + 1 + 1] Wn W) from fun W hc => ⟨(kr.chg hc (fun i hi hm => by simp at hi hm; omega)).here.cell 0 _ rfl, (kr.chg hc (fun i hi hm => by simp at hi hm; omega)).here.cell 1 _ rfl, (kr.chg hc (fun i hi hm => by simp at hi hm; omega)).here.cell 2 _ rfl, (ks.chg hc (fun i hi hm => by simp at hi hm; omega)).here.cell 0 _ rfl, (ks.chg hc (fun i hi hm => by simp at hi hm; omega)).here.cell 1 _ rfl, (ks.chg hc (fun i hi hm => by simp at hi hm; omega)).here.cell 2 _ rfl, (kn.chg hc (fun i hi hm => by simp at hi hm; omega)).here.cell 0 _ rfl, (kn.chg hc (fun i hi hm => by simp at hi hm; omega)).here.cell 1 _ rfl, Lib.hid hc⟩)
      have BBF := Lib.hid (show ∀ W, Chg [w.heap.size + 1 + 1] Wn W → Below w.heap.size w W from fun W hc => below_chg bbx hc bbx.size (fun i hi => by simp at hi; omega))
      go_region_held3 (fun W => W.cell? ⟨w.heap.size, 0, none⟩ = some (.bool r.1.1) ∧ W.cell? ⟨w.heap.size, 1, none⟩ = some (.slice Ar r.1.2.length cr) ∧ W.cell? ⟨w.heap.size, 2, none⟩ = some (.slice Br r.2.length dr) ∧ W.cell? ⟨w.heap.size + 1, 0, none⟩ = some (.bool s.1.1) ∧ W.cell? ⟨w.heap.size + 1, 1, none⟩ = some (.slice As s.1.2.length cs) ∧ W.cell? ⟨w.heap.size + 1, 2, none⟩ = some (.slice Bs s.2.length ds) ∧ W.cell? ⟨w5.heap.size, 0, none⟩ = some (.bool N.1) ∧ W.cell? ⟨w5.heap.size, 1, none⟩ = some (.slice An N.2.length cn) ∧ Hid (Chg [w.heap.size + 1 + 1] Wn W))
        ((refine KL.out _ ?_; (first | exact HC7.out | exact HC6.out | exact HCr.out | exact HC0.out | exact HC7.out.drew1 | exact HC6.out.drew1 | exact HCr.out.drew1 | exact HC0.out.drew1 | exact HC7.out.trans (Chg.of_below (below_al (Below.refl _ _) _)) | exact HC6.out.trans (Chg.of_below (below_al (Below.refl _ _) _)) | exact HCr.out.trans (Chg.of_below (below_al (Below.refl _ _) _)) | exact HC0.out.trans (Chg.of_below (below_al (Below.refl _ _) _)) | exact (Chg.setCell HC7.out (by simp) _) | exact (Chg.setCell (Chg.setCell HC7.out (by simp) _) (by simp) _) | exact (Chg.setCell (Chg.setCell (Chg.setCell HC7.out (by simp) _) (by simp) _) (by simp) _) | fail)))
        (first
          | (go_at_call 63; (have hBB := (‹_ ∧ _ ∧ _ ∧ _ ∧ _ ∧ _ ∧ _ ∧ _ ∧ Hid (Chg [w.heap.size + 1 + 1] Wn _)›).2.2.2.2.2.2.2.2); (with_reducible refine (mulX_any _ _ (r.2) (s.2) X3 _ hdr hds (HPr.out.okd) (HPs.out.okd) EX3.out (ODr.out _ (BBF.out _ hBB.out)) (ODs.out _ (BBF.out _ hBB.out))).mono ?_); rintro e w6 ⟨um, Sm, rfl, om, lm, b6⟩; have HC6 := Lib.hid (hBB.out.trans (Chg.of_below b6)); (have ko_6 := At.below (by first | exact ko | exact At.below ko (below_al (Below.refl _ _) _) | exact At.below (At.below ko (below_al (Below.refl _ _) _)) (below_al (Below.refl _ _) _) | exact At.move ko (fun _ _ => rfl) (Nat.le_refl _)) b6); (have on_6 := At.below (by first | exact on | exact At.below on (below_al (Below.refl _ _) _) | exact At.below (At.below on (below_al (Below.refl _ _) _)) (below_al (Below.refl _ _) _) | exact At.move on (fun _ _ => rfl) (Nat.le_refl _)) b6); obtain ⟨Em, em, rfl⟩ := own_len om.here; have HBZ6 := Lib.hid hBB.out.size; clear hBB)
          | (go_at_call 151; (have hBB := (‹_ ∧ _ ∧ _ ∧ _ ∧ _ ∧ _ ∧ _ ∧ _ ∧ Hid (Chg [w.heap.size + 1 + 1] Wn _)›).2.2.2.2.2.2.2.2); (with_reducible refine (lowX_any _ _ _ N.2 (limbs X3) X4 X3 _ (Nat.le_trans L4.out (by decide)) (Nat.le_trans LX3.out (by decide)) N2.out rfl (ownS_open (At.here (by first | exact on_6 | exact At.below on_6 (below_al (Below.refl _ _) _) | exact At.below (At.below on_6 (below_al (Below.refl _ _) _)) (below_al (Below.refl _ _) _) | exact At.move on_6 (fun _ _ => rfl) (Nat.le_refl _)))) (At.here (by first | exact om | exact At.below om (below_al (Below.refl _ _) _) | exact At.below (At.below om (below_al (Below.refl _ _) _)) (below_al (Below.refl _ _) _) | exact At.move om (fun _ _ => rfl) (Nat.le_refl _)))).mono ?_); rintro e w7 ⟨uf, Sf, rfl, of, lf, b7⟩; have HC7 := Lib.hid (hBB.out.trans (Chg.of_below b7)); (have ko_7 := At.below (by first | exact ko_6 | exact At.below ko_6 (below_al (Below.refl _ _) _) | exact At.below (At.below ko_6 (below_al (Below.refl _ _) _)) (below_al (Below.refl _ _) _) | exact At.move ko_6 (fun _ _ => rfl) (Nat.le_refl _)) b7); (have on_7 := At.below (by first | exact on_6 | exact At.below on_6 (below_al (Below.refl _ _) _) | exact At.below (At.below on_6 (below_al (Below.refl _ _) _)) (below_al (Below.refl _ _) _) | exact At.move on_6 (fun _ _ => rfl) (Nat.le_refl _)) b7); (have om_7 := At.below (by first | exact om | exact At.below om (below_al (Below.refl _ _) _) | exact At.below (At.below om (below_al (Below.refl _ _) _)) (below_al (Below.refl _ _) _) | exact At.move om (fun _ _ => rfl) (Nat.le_refl _)) b7); obtain ⟨Af, cf, Bf, df, rfl⟩ := ownQ_form of.here; have cz0 := ko_7.here.cell 0 _ rfl; have fz0 := Lib.frozen_of_heap ko_7.here 0; have cz1 := ko_7.here.cell 1 _ rfl; have fz1 := Lib.frozen_of_heap ko_7.here 1; have cz2 := ko_7.here.cell 2 _ rfl; have fz2 := Lib.frozen_of_heap ko_7.here 2; have HBZ7 := Lib.hid hBB.out.size; clear hBB))
      have bb7 := BBF.out _ HC7.out
      replace kr := kr.chg HC7.out (fun i hi hm => by simp at hi hm; omega)
      replace ks := ks.chg HC7.out (fun i hi hm => by simp at hi hm; omega)
      replace ko := ko_7
      have on := on_7
      have om := om_7
      have HW := Lib.hid (newQb_at (r := w.heap.size + 1 + 1) (b := (lowQ N.1 X4 X3).2) of lf (by have := HBZ7.out; omega) (by omega) bb7)
      clear of ko kr ks kn on om
      go_wp2
      refine bodyPost_ret (v := .tuple #[.agg #[.bool _, .slice Af _ cf, .slice Bf _ df], .bool _]) (by simp [results, Tryz.results174, go_sem, cz0, cz1, cz2]; exact ⟨⟨rfl, rfl, rfl⟩, rfl⟩) rfl ?_
      rw [HV.out]
      exact HW.out
    · have oks' : okQ s = false := by simpa using oks
      have HV := Lib.hid (show addQ r s = (zeroQ, false) by unfold addQ; rw [if_neg (fun h => oks h.2)])
      rw [oks']
      clear oks oks'
      have ko_c0 := ko.here.cell 0 _ rfl
      have ko_c1 := ko.here.cell 1 _ rfl
      have ko_c2 := ko.here.cell 2 _ rfl
      have cz0 := ko.here.cell 0 _ rfl
      have fz0 := Lib.frozen_of_heap ko.here 0
      have cz1 := ko.here.cell 1 _ rfl
      have fz1 := Lib.frozen_of_heap ko.here 1
      have cz2 := ko.here.cell 2 _ rfl
      have fz2 := Lib.frozen_of_heap ko.here 2
      go_wp2
      refine bodyPost_ret (v := .tuple #[.agg #[.bool false, .slice none 0 0, .slice none 0 0], .bool false]) (by simp [results, Tryz.results174, go_sem, cz0, cz1, cz2]) rfl ?_
      rw [HV.out]
      first | exact newQb_zero _ bb2 | exact newQb_zero _ (below_set3 bb2 (by omega))
  · have okr' : okQ r = false := by simpa using okr
    have HV := Lib.hid (show addQ r s = (zeroQ, false) by unfold addQ; rw [if_neg (fun h => okr h.1)])
    rw [okr']
    clear okr okr'
    have ko_c0 := ko.here.cell 0 _ rfl
    have ko_c1 := ko.here.cell 1 _ rfl
    have ko_c2 := ko.here.cell 2 _ rfl
    have cz0 := ko.here.cell 0 _ rfl
    have fz0 := Lib.frozen_of_heap ko.here 0
    have cz1 := ko.here.cell 1 _ rfl
    have fz1 := Lib.frozen_of_heap ko.here 1
    have cz2 := ko.here.cell 2 _ rfl
    have fz2 := Lib.frozen_of_heap ko.here 2
    go_wp2
    refine bodyPost_ret (v := .tuple #[.agg #[.bool false, .slice none 0 0, .slice none 0 0], .bool false]) (by simp [results, Tryz.results174, go_sem, cz0, cz1, cz2]) rfl ?_
    rw [HV.out]
    first | exact newQb_zero _ bb1 | exact newQb_zero _ (below_set3 bb1 (by omega))
end Go.Proofs.YthfkdofnoomhaaaGreatDoor

namespace Go.Proofs.YthfkdofnoomhaaaGreatDoor
open Go.RowKit

/-- what was own ahead of an append to an empty literal is own behind it, apart from what the append gave -/
theorem after_append {wb w3 : World} {base L gg n k : Nat} {v : Value} {xs : List Value} (m cap : Nat) (o : wb.ownsRow base 3 1 v n xs) (hg : wb.grownBy w3 (Value.slice (some ⟨L, 0, none⟩) 0 k).ownBlock)
    (hat : (Value.slice (some ⟨L, 0, none⟩) 0 k).ownBlock = some gg ∨ gg = wb.heap.size) (hL : L < base ∨ ∀ g, v.ownBlock = some g → g < L) : w3.ownsRow base 3 1 v n xs ∧ ∀ g, v.ownBlock = some g → (Value.slice (some ⟨gg, 0, none⟩) (0 + m) cap).ownBlock ≠ some g := by
  refine ⟨own_apart o hg fun g q h1 h2 => ?_, fun g h1 h2 => ?_⟩
  · have h3 := Option.some.inj (show some L = some q from h2)
    have h4 := own_lt o h1
    rcases hL with h5 | h5
    · omega
    · have := h5 g h1
      omega
  · have h3 := Option.some.inj (show some gg = some g from h2)
    have h4 := own_lt o h1
    rcases hat with h6 | h6
    · have h7 := Option.some.inj (show some L = some gg from h6)
      rcases hL with h5 | h5
      · omega
      · have := h5 g h1
        omega
    · omega
set_option maxHeartbeats 2000000 in
set_option maxRecDepth 100000 in
theorem specRatNeg_any (vr : Value) (r : QI) (w : World) (hzr : szQ r ≤ 1048576) (hr : OwnQ vr r w) :
    Calls Tryz.prog 173 #[vr] w (PostQb (negQ r).1 (negQ r).2 w) := by
  obtain ⟨i0, hi0, hz0, hz1, hz2⟩ := info_parts intInfo
  have Hr := Lib.hid hr
  obtain ⟨Ar, cr, Br, dr, rfl⟩ := ownQ_form hr
  have OQr := Lib.hid (show ∀ W, Below w.heap.size w W → OwnQ (.agg #[.bool r.1.1, .slice Ar r.1.2.length cr, .slice Br r.2.length dr]) r W from fun W hb => OwnQ.below Hr.out hb)
  have OUr := Lib.hid (show ∀ W, Below w.heap.size w W → OwnI (.slice Ar r.1.2.length cr) r.1.2 W from fun W hb => (ownQ_open (OQr.out W hb)).2.1)
  have ODr := Lib.hid (show ∀ W, Below w.heap.size w W → OwnI (.slice Br r.2.length dr) r.2 W from fun W hb => (ownQ_open (OQr.out W hb)).2.2.1)
  have OSr := Lib.hid (show ∀ W, Below w.heap.size w W → OwnS (.agg #[.bool r.1.1, .slice Ar r.1.2.length cr]) r.1 W from fun W hb => OwnS.mk (OUr.out W hb))
  clear hr
  have hlr := szQ_len hzr
  have hl1r := hlr.1
  have hl2r := hlr.2
  clear hlr
  have bb0 : Below w.heap.size w ((w.alloc (.cells #[.bool r.1.1, .slice Ar r.1.2.length cr, .slice Br r.2.length dr] 34)).alloc (.cells #[.bool false, .slice none 0 0, .slice none 0 0] 34)) := below_al (below_al (Below.refl _ _) _) _
  have kr := (box_new w #[.bool r.1.1, .slice Ar r.1.2.length cr, .slice Br r.2.length dr] 34).below (below_al (Below.refl _ _) (.cells #[.bool false, .slice none 0 0, .slice none 0 0] 34))
  have ko := (box_new (w.alloc (.cells #[.bool r.1.1, .slice Ar r.1.2.length cr, .slice Br r.2.length dr] 34)) #[.bool false, .slice none 0 0, .slice none 0 0] 34)
  rw [show (w.alloc (.cells #[.bool r.1.1, .slice Ar r.1.2.length cr, .slice Br r.2.length dr] 34)).heap.size = w.heap.size + 1 by simp] at ko
  go_enter Tryz.func173, Tryz.ntmps173
  have kr_c0 := kr.here.cell 0 _ rfl
  have kr_c1 := kr.here.cell 1 _ rfl
  have kr_c2 := kr.here.cell 2 _ rfl
  go_wp2_with fail
  clear kr_c0 kr_c1 kr_c2
  refine (specRatOk_any _ r _ hzr (OQr.out _ bb0)).mono ?_
  rintro e w1 ⟨rfl, b1⟩
  have bb1 := Below.next bb0 b1
  replace kr := kr.below b1
  replace ko := ko.below b1
  by_cases okr : okQ r = true
  · rw [okr]
    have HOr := Lib.hid okr
    clear okr
    have HP := Lib.hid (parts_of HOr.out)
    have hp : 0 < r.2.length := (okQ_parts HOr.out).2.2.1
    have hd18 := HP.out.d50
    have HB1 := Lib.hid bb1
    have HONE := Lib.hid oneCells
    have HV := Lib.hid (show negQ r = ((negS r.1, r.2), true) by unfold negQ; rw [if_pos HOr.out])
    have kr_c0 := kr.here.cell 0 _ rfl
    have kr_c1 := kr.here.cell 1 _ rfl
    have kr_c2 := kr.here.cell 2 _ rfl
    have ko_c0 := ko.here.cell 0 _ rfl
    have ko_c1 := ko.here.cell 1 _ rfl
    have ko_c2 := ko.here.cell 2 _ rfl
    have ko_f0 := Lib.frozen_of_heap ko.here 0
    have ko_f1 := Lib.frozen_of_heap ko.here 1
    have ko_f2 := Lib.frozen_of_heap ko.here 2
    have hsz1 := bb1.size
    have hko := ko.lt (w.heap.size + 1) (by simp)
    go_wp2_with fail
    obtain ⟨gB, cB, eB, hgB0, hgB1, _⟩ := own_form (ODr.out _ bb1) hp
    injection eB with eB _ ecB
    subst eB ecB
    have HB0 := Lib.hid (show Below w1.heap.size w1 w1.drew from (Below.refl _ _).drew)
    have BBF := Lib.hid (show ∀ W, Below w1.heap.size w1 W → Below w.heap.size w W from fun W hb => Below.next bb1 hb)
    have KR := Lib.hid (show ∀ W, Below w1.heap.size w1 W → W.cell? ⟨w.heap.size, 0, none⟩ = some (.bool r.1.1) ∧ W.cell? ⟨w.heap.size, 1, none⟩ = some (.slice Ar r.1.2.length cr) ∧ W.cell? ⟨w.heap.size, 2, none⟩ = some (.slice (some ⟨gB, 0, none⟩) r.2.length dr) from
      fun W hb => ⟨(kr.below hb).here.cell 0 _ rfl, (kr.below hb).here.cell 1 _ rfl, (kr.below hb).here.cell 2 _ rfl⟩)
    have KO := Lib.hid (show ∀ W, Below w1.heap.size w1 W → At [w.heap.size + 1] (BoxAt (w.heap.size + 1) #[.bool false, .slice none 0 0, .slice none 0 0] 34) W from fun W hb => ko.below hb)
    have ODc := Lib.hid (show ∀ W, Below w1.heap.size w1 W → ∀ j u, (intsV r.2)[j]? = some u → W.cell? (Addr.add ⟨gB, 0, none⟩ j) = some u from fun W hb j u hj => by
      obtain ⟨A', c', e1, hA⟩ := (ODr.out W (BBF.out W hb)).row
      injection e1 with e1 _ _
      subst e1
      obtain ⟨a, ea, _, _, hc⟩ := hA j u hj
      cases ea
      exact hc)
    have HB1L := Lib.hid (show Below w1.heap.size w1 (w1.alloc (.cells #[] 3)).drew from (below_al (Below.refl _ _) _).drew)
    have LITLT := Lib.hid (show w1.heap.size < (w1.alloc (.cells #[] 3)).drew.heap.size by show w1.heap.size < (w1.alloc (.cells #[] 3)).heap.size; simp)
    have LIT := Lib.hid (fun W : World => World.ownsRow_made (base := w1.heap.size) (e := 3) (size := 1) W #[] 0)
    have hk0 : w.heap.size < w1.heap.size := by omega
    go_region_law (first
      | (refine step_append_lies _ (by rfl) _ _ _ (by rfl) w1.heap.size 3 i0 _ 1 8 Tryz.underlying22 hi0 hz0 hz1 hz2 rfl (by omega) _ 0 [] (by rfl) (by first | exact LIT.out wc HBC.out.size (Nat.zero_le _) rfl | exact own_below (LIT.out w1 (Nat.le_refl _) (Nat.zero_le _) rfl).drew bc) _ r.2.length dr (intsV r.2) (by rfl) (by simp [intsV]) (ODc.out _ (by first | exact HBC.out | exact below_al HBC.out _)) (HONE.out _) hp (by unfold maxLen; omega) (by omega) (by first | exact HBC.out.size | exact (below_al HBC.out _).size) _ (by rfl) ?_; intro gg cap w3 hown3 hg3 hat3 hlt3; have HBE := Lib.hid (show Below w1.heap.size w1 w3 from by first | exact HBC.out.grown hg3 HBC.out.size (fun k hk => by cases hk; exact Nat.le_refl _) | exact (below_al HBC.out _).grown hg3 (below_al HBC.out _).size (fun k hk => by cases hk; exact HBC.out.size)); have HOE := Lib.hid hown3; (first | (have hzz := after_append r.2.length cap (own_alloc HOC.out (.cells #[] 3)) hg3 hat3 (.inr fun g hg => (own_lt HOC.out hg).2)) | (have hzz := after_append r.2.length cap HOC.out hg3 hat3 (.inl LITLT.out))); obtain ⟨hoc3, hap3⟩ := hzz; have HOC3 := Lib.hid hoc3; have HAP := Lib.hid hap3; clear hoc3 hap3; (have e_r0 := (KR.out _ HBE.out).1); (have e_r1 := (KR.out _ HBE.out).2.1); (have e_r2 := (KR.out _ HBE.out).2.2); (have e_o0 := (KO.out _ HBE.out).here.cell 0 _ rfl); (have e_o1 := (KO.out _ HBE.out).here.cell 1 _ rfl); (have e_o2 := (KO.out _ HBE.out).here.cell 2 _ rfl); (have e_f0 := Lib.frozen_of_heap (KO.out _ HBE.out).here 0); (have e_f1 := Lib.frozen_of_heap (KO.out _ HBE.out).here 1); (have e_f2 := Lib.frozen_of_heap (KO.out _ HBE.out).here 2); clear hown3 hg3 hat3 hlt3)
      | (go_simp; go_at_call 210; (first | (have hBB := HB0.out; with_reducible refine (specIntNeg_any _ r.1 _ hl1r (OSr.out _ (BBF.out _ hBB))).mono ?_) | (have hBB := HB1L.out; with_reducible refine (specIntNeg_any _ r.1 _ hl1r (OSr.out _ (BBF.out _ hBB))).mono ?_)); rintro e wc ⟨uc, rfl, oc, bc⟩; obtain ⟨Ac, cc, rfl⟩ := own_len oc; have HOC := Lib.hid oc; have HBC := Lib.hid (Below.next hBB bc); (have c_l0 : w.heap.size < wc.heap.size := by have := HBC.out.size; omega); (have c_l1 : w.heap.size + 1 < wc.heap.size := by have := HBC.out.size; omega); (have c_r0 := (KR.out _ HBC.out).1); (have c_r1 := (KR.out _ HBC.out).2.1); (have c_r2 := (KR.out _ HBC.out).2.2); (have c_o0 := (KO.out _ HBC.out).here.cell 0 _ rfl); (have c_o1 := (KO.out _ HBC.out).here.cell 1 _ rfl); (have c_o2 := (KO.out _ HBC.out).here.cell 2 _ rfl); (have c_f0 := Lib.frozen_of_heap (KO.out _ HBC.out).here 0); (have c_f1 := Lib.frozen_of_heap (KO.out _ HBC.out).here 1); (have c_f2 := Lib.frozen_of_heap (KO.out _ HBC.out).here 2); clear oc hBB))
    all_goals
      have HR := Lib.hid (newQb_ret (x := (negS r.1, r.2)) (b := true) (KO.out _ HBE.out).here HOC3.out (by have h := HOE.out; simp only [Nat.zero_add, List.nil_append] at h; exact h) (by have h := HAP.out; simp only [Nat.zero_add] at h; exact h) (Nat.le_trans bb1.size (by first | exact HB0.out.size | exact HB1L.out.size)) bb1.size (Nat.le_add_right _ 1) (BBF.out _ HBE.out))
      clear HOE HOC3 HAP HBE HBC HOC HB0 HB1L LIT ODc KO KR BBF OQr OUr ODr OSr
      go_wp2
      refine bodyPost_ret (v := .tuple #[.agg #[.bool _, .slice Ac _ cc, .slice _ _ cap], .bool true]) (by simp [results, Tryz.results173, go_sem, e_o0, e_o1, e_o2]; exact ⟨rfl, rfl, rfl, rfl⟩) rfl ?_
      rw [HV.out]
      exact HR.out
  · have okr' : okQ r = false := by simpa using okr
    have HV := Lib.hid (show negQ r = (zeroQ, false) by unfold negQ; rw [if_neg okr])
    rw [okr']
    clear okr okr'
    have cz0 := ko.here.cell 0 _ rfl
    have fz0 := Lib.frozen_of_heap ko.here 0
    have cz1 := ko.here.cell 1 _ rfl
    have fz1 := Lib.frozen_of_heap ko.here 1
    have cz2 := ko.here.cell 2 _ rfl
    have fz2 := Lib.frozen_of_heap ko.here 2
    go_wp2
    refine bodyPost_ret (v := .tuple #[.agg #[.bool false, .slice none 0 0, .slice none 0 0], .bool false]) (by simp [results, Tryz.results173, go_sem, cz0, cz1, cz2]) rfl ?_
    rw [HV.out]
    first | exact newQb_zero _ bb1 | exact newQb_zero _ (below_set3 bb1 (by omega))
end Go.Proofs.YthfkdofnoomhaaaGreatDoor
