/-
  RatSpec2, RatSpec4, MoneyRatS, TaxPlain, TaxWords, DecSpec, DecSpec2, TaxOkS, NatImpl, NatBuf
-/
import Derived.Deep.RegionHeld3
import Derived.Deep.DeepCutAuto
import Derived.Laws.OwnMore
import Derived.IntWalk
import Derived.Lib.Builder
import Derived.Lib.SliceRun
import Derived.Test.YtofehcpapdlcnaaGreatDoorJQ4
namespace Go.Proofs.YtofehcpapdlcnaaGreatDoor
open Go.RowKit

theorem ownS_open {u c : Value} {x : SI} {w : World} (h : OwnS (.agg #[c, u]) x w) : OwnI u x.2 w := by
  obtain ⟨u', e, hu⟩ := h
  injection e with e
  simp at e
  obtain ⟨_, e2⟩ := e
  subst e2
  exact hu
theorem OwnS.below {w W : World} {v : Value} {x : SI} (h : OwnS v x w) (hb : Below w.heap.size w W) : OwnS v x W := by
  obtain ⟨u, rfl, o⟩ := h
  exact ⟨u, rfl, own_below o hb⟩
theorem one_szS : szS (ofZ 1) ≤ 1048576 := by have := ofZ_len 1; unfold szS szI; omega
theorem postQb_eq {q Q : QI × Bool} (e : q = Q) {w w' : World} {n : Ending} (h : PostQb q.1 q.2 w n w') : PostQb Q.1 Q.2 w n w' := by rw [← e]; exact h
theorem postn_eq {z z' : Int} (e : z = z') {w w' : World} {n : Ending} (h : Postn z w n w') : Postn z' w n w' := by rw [← e]; exact h
theorem OwnQ.below {w W : World} {v : Value} {x : QI} (h : OwnQ v x w) (hb : Below w.heap.size w W) : OwnQ v x W := by
  obtain ⟨u, d, rfl, o, p, hap⟩ := h
  exact ⟨u, d, rfl, own_below o hb, own_below p hb, hap⟩
set_option maxHeartbeats 2000000 in
set_option maxRecDepth 100000 in
theorem specRatMul_any (vr : Value) (vs : Value) (r s : QI) (w : World) (hzr : szQ r ≤ 1048576) (hzs : szQ s ≤ 1048576) (hr : OwnQ vr r w) (hs : OwnQ vs s w) :
    Calls Tryz.prog 31 #[vr, vs] w (PostQb (mulQ r s).1 (mulQ r s).2 w) := by
  have Hr := Lib.hid hr
  obtain ⟨Ar, cr, Br, dr, rfl⟩ := ownQ_form hr
  have OQr := Lib.hid (show ∀ W, Below w.heap.size w W → OwnQ (.agg #[.bool r.1.1, .slice Ar r.1.2.length cr, .slice Br r.2.length dr]) r W from fun W hb => OwnQ.below Hr.out hb)
  have OUr := Lib.hid (show ∀ W, Below w.heap.size w W → OwnI (.slice Ar r.1.2.length cr) r.1.2 W from fun W hb => (ownQ_open (OQr.out W hb)).2.1)
  have ODr := Lib.hid (show ∀ W, Below w.heap.size w W → OwnI (.slice Br r.2.length dr) r.2 W from fun W hb => (ownQ_open (OQr.out W hb)).2.2.1)
  have OSr := Lib.hid (show ∀ W, Below w.heap.size w W → OwnS (.agg #[.bool r.1.1, .slice Ar r.1.2.length cr]) r.1 W from fun W hb => OwnS.mk (OUr.out W hb))
  clear hr
  have Hs := Lib.hid hs
  obtain ⟨As, cs, Bs, ds, rfl⟩ := ownQ_form hs
  have OQs := Lib.hid (show ∀ W, Below w.heap.size w W → OwnQ (.agg #[.bool s.1.1, .slice As s.1.2.length cs, .slice Bs s.2.length ds]) s W from fun W hb => OwnQ.below Hs.out hb)
  have OUs := Lib.hid (show ∀ W, Below w.heap.size w W → OwnI (.slice As s.1.2.length cs) s.1.2 W from fun W hb => (ownQ_open (OQs.out W hb)).2.1)
  have ODs := Lib.hid (show ∀ W, Below w.heap.size w W → OwnI (.slice Bs s.2.length ds) s.2 W from fun W hb => (ownQ_open (OQs.out W hb)).2.2.1)
  have OSs := Lib.hid (show ∀ W, Below w.heap.size w W → OwnS (.agg #[.bool s.1.1, .slice As s.1.2.length cs]) s.1 W from fun W hb => OwnS.mk (OUs.out W hb))
  clear hs
  have hlr := szQ_len hzr
  have hl1r := hlr.1
  have hl2r := hlr.2
  clear hlr
  have hls := szQ_len hzs
  have hl1s := hls.1
  have hl2s := hls.2
  clear hls
  have bb0 : Below w.heap.size w (((w.alloc (.cells #[.bool r.1.1, .slice Ar r.1.2.length cr, .slice Br r.2.length dr] 35)).alloc (.cells #[.bool s.1.1, .slice As s.1.2.length cs, .slice Bs s.2.length ds] 35)).alloc (.cells #[.bool false, .slice none 0 0, .slice none 0 0] 35)) := below_al (below_al (below_al (Below.refl _ _) _) _) _
  have kr := (box_new w #[.bool r.1.1, .slice Ar r.1.2.length cr, .slice Br r.2.length dr] 35).below (below_al (below_al (Below.refl _ _) (.cells #[.bool s.1.1, .slice As s.1.2.length cs, .slice Bs s.2.length ds] 35)) (.cells #[.bool false, .slice none 0 0, .slice none 0 0] 35))
  have ks := (box_new (w.alloc (.cells #[.bool r.1.1, .slice Ar r.1.2.length cr, .slice Br r.2.length dr] 35)) #[.bool s.1.1, .slice As s.1.2.length cs, .slice Bs s.2.length ds] 35).below (below_al (Below.refl _ _) (.cells #[.bool false, .slice none 0 0, .slice none 0 0] 35))
  rw [show (w.alloc (.cells #[.bool r.1.1, .slice Ar r.1.2.length cr, .slice Br r.2.length dr] 35)).heap.size = w.heap.size + 1 by simp] at ks
  have ko := (box_new ((w.alloc (.cells #[.bool r.1.1, .slice Ar r.1.2.length cr, .slice Br r.2.length dr] 35)).alloc (.cells #[.bool s.1.1, .slice As s.1.2.length cs, .slice Bs s.2.length ds] 35)) #[.bool false, .slice none 0 0, .slice none 0 0] 35)
  rw [show ((w.alloc (.cells #[.bool r.1.1, .slice Ar r.1.2.length cr, .slice Br r.2.length dr] 35)).alloc (.cells #[.bool s.1.1, .slice As s.1.2.length cs, .slice Bs s.2.length ds] 35)).heap.size = w.heap.size + 1 + 1 by simp] at ko
  go_enter Tryz.func31, Tryz.ntmps31
  have kr_c0 := kr.here.cell 0 _ rfl
  have kr_c1 := kr.here.cell 1 _ rfl
  have kr_c2 := kr.here.cell 2 _ rfl
  go_wp2_with fail
  clear kr_c0 kr_c1 kr_c2
  refine (specRatOk_any _ r _ hzr (OQr.out _ bb0)).mono ?_
  rintro e w1 ⟨rfl, b1⟩
  have bb1 := Below.next bb0 b1
  replace kr := kr.below b1
  replace ks := ks.below b1
  replace ko := ko.below b1
  by_cases okr : okQ r = true
  · rw [okr]
    have HOr := Lib.hid okr
    clear okr
    have ks_c0 := ks.here.cell 0 _ rfl
    have ks_c1 := ks.here.cell 1 _ rfl
    have ks_c2 := ks.here.cell 2 _ rfl
    go_wp2_with fail
    clear ks_c0 ks_c1 ks_c2
    refine (specRatOk_any _ s _ hzs (OQs.out _ bb1)).mono ?_
    rintro e w2 ⟨rfl, b2⟩
    have bb2 := Below.next bb1 b2
    replace kr := kr.below b2
    replace ks := ks.below b2
    replace ko := ko.below b2
    by_cases oks : okQ s = true
    · rw [oks]
      have HOs := Lib.hid oks
      clear oks
      have Pr := parts_of HOr.out
      have Ps := parts_of HOs.out
      have HPr := Lib.hid Pr
      have HPs := Lib.hid Ps
      have hnr := Pr.n50
      have hns := Ps.n50
      have hdr := Pr.d50
      have hds := Ps.d50
      have z0 := bb2.size
      have hko := ko.lt (w.heap.size + 1 + 1) (by simp)
      have H1 := Lib.hid (show (limbs (nval (r.1.2) * nval (s.1.2)).toNat).length ≤ 50 by rw [mul_toNat (okS_parts HPr.out.okn).1 (okS_parts HPs.out.okn).1]; exact Nat.le_trans (prod_len HPr.out.nlt HPs.out.nlt) (by decide))
      have H2 := Lib.hid (show (limbs (nval (r.2) * nval (s.2)).toNat).length ≤ 50 by rw [mul_toNat HPr.out.okd HPs.out.okd]; exact Nat.le_trans (prod_len HPr.out.dlt HPs.out.dlt) (by decide))
      have HV := Lib.hid (show mulQ r s = lowQ (!(r.1.1 == s.1.1)) (nval (r.1.2) * nval (s.1.2)).toNat (nval (r.2) * nval (s.2)).toNat by unfold mulQ; rw [if_pos ⟨HOr.out, HOs.out⟩, mul_toNat (okS_parts HPr.out.okn).1 (okS_parts HPs.out.okn).1, mul_toNat HPr.out.okd HPs.out.okd]; rfl)
      clear Pr Ps
      have kr_c0 := kr.here.cell 0 _ rfl
      have kr_c1 := kr.here.cell 1 _ rfl
      have kr_c2 := kr.here.cell 2 _ rfl
      have ks_c0 := ks.here.cell 0 _ rfl
      have ks_c1 := ks.here.cell 1 _ rfl
      have ks_c2 := ks.here.cell 2 _ rfl
      go_wp2_with fail
      have HC0 := Lib.hid (show Chg [w.heap.size + 1 + 1] w2 w2.drew from (Chg.refl _ _).drew1)
      have HCr := Lib.hid (show Chg [w.heap.size + 1 + 1] w2 w2 from Chg.refl _ _)
      have KL := Lib.hid (show ∀ W, Chg [w.heap.size + 1 + 1] w2 W → W.cell? ⟨w.heap.size, 0, none⟩ = some (.bool r.1.1) ∧ W.cell? ⟨w.heap.size, 1, none⟩ = some (.slice Ar r.1.2.length cr) ∧ W.cell? ⟨w.heap.size, 2, none⟩ = some (.slice Br r.2.length dr) ∧ W.cell? ⟨w.heap.size + 1, 0, none⟩ = some (.bool s.1.1) ∧ W.cell? ⟨w.heap.size + 1, 1, none⟩ = some (.slice As s.1.2.length cs) ∧ W.cell? ⟨w.heap.size + 1, 2, none⟩ = some (.slice Bs s.2.length ds) ∧ Hid (Chg [w.heap.size + 1 + 1] w2 W) from fun W hc => ⟨(kr.chg hc (fun i hi hm => by simp at hi hm; omega)).here.cell 0 _ rfl, (kr.chg hc (fun i hi hm => by simp at hi hm; omega)).here.cell 1 _ rfl, (kr.chg hc (fun i hi hm => by simp at hi hm; omega)).here.cell 2 _ rfl, (ks.chg hc (fun i hi hm => by simp at hi hm; omega)).here.cell 0 _ rfl, (ks.chg hc (fun i hi hm => by simp at hi hm; omega)).here.cell 1 _ rfl, (ks.chg hc (fun i hi hm => by simp at hi hm; omega)).here.cell 2 _ rfl, Lib.hid hc⟩)
      have BBF := Lib.hid (show ∀ W, Chg [w.heap.size + 1 + 1] w2 W → Below w.heap.size w W from fun W hc => below_chg bb2 hc bb2.size (fun i hi => by simp at hi; omega))
      clear kr_c0 kr_c1 kr_c2 ks_c0 ks_c1 ks_c2
      go_region_held3 (fun W => W.cell? ⟨w.heap.size, 0, none⟩ = some (.bool r.1.1) ∧ W.cell? ⟨w.heap.size, 1, none⟩ = some (.slice Ar r.1.2.length cr) ∧ W.cell? ⟨w.heap.size, 2, none⟩ = some (.slice Br r.2.length dr) ∧ W.cell? ⟨w.heap.size + 1, 0, none⟩ = some (.bool s.1.1) ∧ W.cell? ⟨w.heap.size + 1, 1, none⟩ = some (.slice As s.1.2.length cs) ∧ W.cell? ⟨w.heap.size + 1, 2, none⟩ = some (.slice Bs s.2.length ds) ∧ Hid (Chg [w.heap.size + 1 + 1] w2 W))
        ((refine KL.out _ ?_; (first | exact HC5.out | exact HC4.out | exact HC3.out | exact HCr.out | exact HC0.out | exact HC5.out.drew1 | exact HC4.out.drew1 | exact HC3.out.drew1 | exact HCr.out.drew1 | exact HC0.out.drew1 | exact HC5.out.trans (Chg.of_below (below_al (Below.refl _ _) _)) | exact HC4.out.trans (Chg.of_below (below_al (Below.refl _ _) _)) | exact HC3.out.trans (Chg.of_below (below_al (Below.refl _ _) _)) | exact HCr.out.trans (Chg.of_below (below_al (Below.refl _ _) _)) | exact HC0.out.trans (Chg.of_below (below_al (Below.refl _ _) _)) | exact (Chg.setCell HC5.out (by simp) _) | exact (Chg.setCell (Chg.setCell HC5.out (by simp) _) (by simp) _) | exact (Chg.setCell (Chg.setCell (Chg.setCell HC5.out (by simp) _) (by simp) _) (by simp) _) | fail)))
        (first
          | (go_at_call 73; (have hBB := (‹_ ∧ _ ∧ _ ∧ _ ∧ _ ∧ _ ∧ Hid (Chg [w.heap.size + 1 + 1] w2 _)›).2.2.2.2.2.2); (with_reducible refine (specMulV_any _ _ (r.1.2) (s.1.2) 0 _ 0 _ _ (by omega) (by omega) (Nat.le_refl _) (Nat.le_refl _) (natOk_parts (okS_parts HPr.out.okn).1).1 (natOk_parts (okS_parts HPs.out.okn).1).1 (OUr.out _ (BBF.out _ hBB.out)).row (OUs.out _ (BBF.out _ hBB.out)).row).mono ?_); rintro e w3 ⟨ua, rfl, oa_, b3⟩; have HC3 := Lib.hid (hBB.out.trans (Chg.of_below b3)); (have ko_3 := At.below (by first | exact ko | exact At.below ko (below_al (Below.refl _ _) _) | exact At.below (At.below ko (below_al (Below.refl _ _) _)) (below_al (Below.refl _ _) _) | exact At.move ko (fun _ _ => rfl) (Nat.le_refl _)) b3); have oa := own_at' oa_; have HBZ3 := Lib.hid hBB.out.size; clear hBB)
          | (go_at_call 73; (have hBB := (‹_ ∧ _ ∧ _ ∧ _ ∧ _ ∧ _ ∧ Hid (Chg [w.heap.size + 1 + 1] w2 _)›).2.2.2.2.2.2); (with_reducible refine (specMulV_any _ _ (r.2) (s.2) 0 _ 0 _ _ (by omega) (by omega) (Nat.le_refl _) (Nat.le_refl _) (natOk_parts HPr.out.okd).1 (natOk_parts HPs.out.okd).1 (ODr.out _ (BBF.out _ hBB.out)).row (ODs.out _ (BBF.out _ hBB.out)).row).mono ?_); rintro e w4 ⟨ub, rfl, ob_, b4⟩; have HC4 := Lib.hid (hBB.out.trans (Chg.of_below b4)); (have ko_4 := At.below (by first | exact ko_3 | exact At.below ko_3 (below_al (Below.refl _ _) _) | exact At.below (At.below ko_3 (below_al (Below.refl _ _) _)) (below_al (Below.refl _ _) _) | exact At.move ko_3 (fun _ _ => rfl) (Nat.le_refl _)) b4); (have oa_4 := At.below (by first | exact oa | exact At.below oa (below_al (Below.refl _ _) _) | exact At.below (At.below oa (below_al (Below.refl _ _) _)) (below_al (Below.refl _ _) _) | exact At.move oa (fun _ _ => rfl) (Nat.le_refl _)) b4); have ob := own_at' ob_; have HBZ4 := Lib.hid hBB.out.size; clear hBB)
          | (go_at_call 72; (have hBB := (‹_ ∧ _ ∧ _ ∧ _ ∧ _ ∧ _ ∧ Hid (Chg [w.heap.size + 1 + 1] w2 _)›).2.2.2.2.2.2); (with_reducible refine (l05Low_any _ _ _ ((nval (r.1.2) * nval (s.1.2)).toNat) ((nval (r.2) * nval (s.2)).toNat) _ H1.out H2.out (At.here (by first | exact oa_4 | exact At.below oa_4 (below_al (Below.refl _ _) _) | exact At.below (At.below oa_4 (below_al (Below.refl _ _) _)) (below_al (Below.refl _ _) _) | exact At.move oa_4 (fun _ _ => rfl) (Nat.le_refl _))) (At.here (by first | exact ob | exact At.below ob (below_al (Below.refl _ _) _) | exact At.below (At.below ob (below_al (Below.refl _ _) _)) (below_al (Below.refl _ _) _) | exact At.move ob (fun _ _ => rfl) (Nat.le_refl _)))).mono ?_); rintro e w5 ⟨uf, Sf, rfl, of, lf, b5⟩; have HC5 := Lib.hid (hBB.out.trans (Chg.of_below b5)); (have ko_5 := At.below (by first | exact ko_4 | exact At.below ko_4 (below_al (Below.refl _ _) _) | exact At.below (At.below ko_4 (below_al (Below.refl _ _) _)) (below_al (Below.refl _ _) _) | exact At.move ko_4 (fun _ _ => rfl) (Nat.le_refl _)) b5); (have oa_5 := At.below (by first | exact oa_4 | exact At.below oa_4 (below_al (Below.refl _ _) _) | exact At.below (At.below oa_4 (below_al (Below.refl _ _) _)) (below_al (Below.refl _ _) _) | exact At.move oa_4 (fun _ _ => rfl) (Nat.le_refl _)) b5); (have ob_5 := At.below (by first | exact ob | exact At.below ob (below_al (Below.refl _ _) _) | exact At.below (At.below ob (below_al (Below.refl _ _) _)) (below_al (Below.refl _ _) _) | exact At.move ob (fun _ _ => rfl) (Nat.le_refl _)) b5); obtain ⟨Af, cf, Bf, df, rfl⟩ := ownQ_form of.here; have cz0 := ko_5.here.cell 0 _ rfl; have fz0 := Lib.frozen_of_heap ko_5.here 0; have cz1 := ko_5.here.cell 1 _ rfl; have fz1 := Lib.frozen_of_heap ko_5.here 1; have cz2 := ko_5.here.cell 2 _ rfl; have fz2 := Lib.frozen_of_heap ko_5.here 2; have HBZ5 := Lib.hid hBB.out.size; clear hBB))
      have bb5 := BBF.out _ HC5.out
      replace kr := kr.chg HC5.out (fun i hi hm => by simp at hi hm; omega)
      replace ks := ks.chg HC5.out (fun i hi hm => by simp at hi hm; omega)
      replace ko := ko_5
      have oa := oa_5
      have ob := ob_5
      have HW := Lib.hid (newQb_at (r := w.heap.size + 1 + 1) (b := (lowQ (!(r.1.1 == s.1.1)) ((nval (r.1.2) * nval (s.1.2)).toNat) ((nval (r.2) * nval (s.2)).toNat)).2) of lf (by have := HBZ5.out; omega) (by omega) bb5)
      clear of ko kr ks oa ob z0 hko
      go_wp2
      refine bodyPost_ret (v := .tuple #[.agg #[.bool _, .slice Af _ cf, .slice Bf _ df], .bool _]) (by simp [results, Tryz.results31, go_sem, cz0, cz1, cz2]; exact ⟨⟨rfl, rfl, rfl⟩, rfl⟩) rfl ?_
      rw [HV.out]
      exact HW.out
    · have oks' : okQ s = false := by simpa using oks
      have HV := Lib.hid (show mulQ r s = (zeroQ, false) by unfold mulQ; rw [if_neg (fun h => oks h.2)])
      rw [oks']
      clear oks oks'
      have ko_c0 := ko.here.cell 0 _ rfl
      have ko_c1 := ko.here.cell 1 _ rfl
      have ko_c2 := ko.here.cell 2 _ rfl
      have cz0 := ko.here.cell 0 _ rfl
      have fz0 := Lib.frozen_of_heap ko.here 0
      have cz1 := ko.here.cell 1 _ rfl
      have fz1 := Lib.frozen_of_heap ko.here 1
      have cz2 := ko.here.cell 2 _ rfl
      have fz2 := Lib.frozen_of_heap ko.here 2
      go_wp2
      refine bodyPost_ret (v := .tuple #[.agg #[.bool false, .slice none 0 0, .slice none 0 0], .bool false]) (by simp [results, Tryz.results31, go_sem, cz0, cz1, cz2]) rfl ?_
      rw [HV.out]
      first | exact newQb_zero _ bb2 | exact newQb_zero _ (below_set3 bb2 (by omega))
  · have okr' : okQ r = false := by simpa using okr
    have HV := Lib.hid (show mulQ r s = (zeroQ, false) by unfold mulQ; rw [if_neg (fun h => okr h.1)])
    rw [okr']
    clear okr okr'
    have ko_c0 := ko.here.cell 0 _ rfl
    have ko_c1 := ko.here.cell 1 _ rfl
    have ko_c2 := ko.here.cell 2 _ rfl
    have cz0 := ko.here.cell 0 _ rfl
    have fz0 := Lib.frozen_of_heap ko.here 0
    have cz1 := ko.here.cell 1 _ rfl
    have fz1 := Lib.frozen_of_heap ko.here 1
    have cz2 := ko.here.cell 2 _ rfl
    have fz2 := Lib.frozen_of_heap ko.here 2
    go_wp2
    refine bodyPost_ret (v := .tuple #[.agg #[.bool false, .slice none 0 0, .slice none 0 0], .bool false]) (by simp [results, Tryz.results31, go_sem, cz0, cz1, cz2]) rfl ?_
    rw [HV.out]
    first | exact newQb_zero _ bb1 | exact newQb_zero _ (below_set3 bb1 (by omega))
end Go.Proofs.YtofehcpapdlcnaaGreatDoor

namespace Go.Proofs.YtofehcpapdlcnaaGreatDoor
open Go.RowKit

set_option maxHeartbeats 2000000 in
set_option maxRecDepth 100000 in
theorem specRatMake_any (va vb : Value) (a b : SI) (w : World) (hza : szS a ≤ 1048576) (hzb : szS b ≤ 1048576) (ha : OwnS va a w) (hb : OwnS vb b w) :
    Calls Tryz.prog 74 #[va, vb] w (PostQb (makeQ a b).1 (makeQ a b).2 w) := by
  have Ha := Lib.hid ha
  obtain ⟨Aa, ca, rfl⟩ := ownS_form ha
  have OSa := Lib.hid (show ∀ W, Below w.heap.size w W → OwnS (.agg #[.bool a.1, .slice Aa a.2.length ca]) a W from fun W hb => OwnS.below Ha.out hb)
  have OIa := Lib.hid (show ∀ W, Below w.heap.size w W → OwnI (.slice Aa a.2.length ca) a.2 W from fun W hb => ownS_open (OSa.out W hb))
  clear ha
  have Hb := Lib.hid hb
  obtain ⟨Ab, cb, rfl⟩ := ownS_form hb
  have OSb := Lib.hid (show ∀ W, Below w.heap.size w W → OwnS (.agg #[.bool b.1, .slice Ab b.2.length cb]) b W from fun W hb => OwnS.below Hb.out hb)
  have OIb := Lib.hid (show ∀ W, Below w.heap.size w W → OwnI (.slice Ab b.2.length cb) b.2 W from fun W hb => ownS_open (OSb.out W hb))
  clear hb
  have hla : a.2.length ≤ 1048576 := by unfold szS szI at hza; omega
  have hlb : b.2.length ≤ 1048576 := by unfold szS szI at hzb; omega
  clear hza hzb
  have bb0 : Below w.heap.size w (((w.alloc (.cells #[.bool a.1, .slice Aa a.2.length ca] 31)).alloc (.cells #[.bool b.1, .slice Ab b.2.length cb] 31)).alloc (.cells #[.bool false, .slice none 0 0, .slice none 0 0] 35)) := below_al (below_al (below_al (Below.refl _ _) _) _) _
  have ka := (box_new w #[.bool a.1, .slice Aa a.2.length ca] 31).below (below_al (below_al (Below.refl _ _) (.cells #[.bool b.1, .slice Ab b.2.length cb] 31)) (.cells #[.bool false, .slice none 0 0, .slice none 0 0] 35))
  have kb := (box_new (w.alloc (.cells #[.bool a.1, .slice Aa a.2.length ca] 31)) #[.bool b.1, .slice Ab b.2.length cb] 31).below (below_al (Below.refl _ _) (.cells #[.bool false, .slice none 0 0, .slice none 0 0] 35))
  rw [show (w.alloc (.cells #[.bool a.1, .slice Aa a.2.length ca] 31)).heap.size = w.heap.size + 1 by simp] at kb
  have ko := (box_new ((w.alloc (.cells #[.bool a.1, .slice Aa a.2.length ca] 31)).alloc (.cells #[.bool b.1, .slice Ab b.2.length cb] 31)) #[.bool false, .slice none 0 0, .slice none 0 0] 35)
  rw [show ((w.alloc (.cells #[.bool a.1, .slice Aa a.2.length ca] 31)).alloc (.cells #[.bool b.1, .slice Ab b.2.length cb] 31)).heap.size = w.heap.size + 1 + 1 by simp] at ko
  go_enter Tryz.func74, Tryz.ntmps74
  have ka_c0 := ka.here.cell 0 _ rfl
  have ka_c1 := ka.here.cell 1 _ rfl
  go_wp2_with fail
  clear ka_c0 ka_c1
  refine (specIntOk_any _ a _ hla (OwnS.rd (OSa.out _ bb0))).mono ?_
  rintro e w1 ⟨rfl, b1⟩
  have bb1 := Below.next bb0 b1
  replace ka := ka.below b1
  replace kb := kb.below b1
  replace ko := ko.below b1
  by_cases oka : okS a = true
  · rw [oka]
    have HOa := Lib.hid oka
    clear oka
    have kb_c0 := kb.here.cell 0 _ rfl
    have kb_c1 := kb.here.cell 1 _ rfl
    go_wp2_with fail
    clear kb_c0 kb_c1
    refine (specIntOk_any _ b _ hlb (OwnS.rd (OSb.out _ bb1))).mono ?_
    rintro e w2 ⟨rfl, b2⟩
    have bb2 := Below.next bb1 b2
    replace ka := ka.below b2
    replace kb := kb.below b2
    replace ko := ko.below b2
    by_cases okb : okS b = true
    · rw [okb]
      have HOb := Lib.hid okb
      clear okb
      have HKO := Lib.hid (ko.lt (w.heap.size + 1 + 1) (by simp))
      have Ea := Lib.hid (natOk_limbs (okS_parts HOa.out).1)
      have Eb := Lib.hid (natOk_limbs (okS_parts HOb.out).1)
      obtain ⟨Na, hNa⟩ : ∃ Na, (nval a.2).toNat = Na := ⟨_, rfl⟩
      have Ea := Lib.hid (show a.2 = limbs Na by rw [← hNa]; exact natOk_limbs (okS_parts HOa.out).1)
      have La := Lib.hid (show (limbs Na).length ≤ 50 by rw [← Ea.out]; exact (natOk_parts (okS_parts HOa.out).1).2.1)
      obtain ⟨Nb, hNb⟩ : ∃ Nb, (nval b.2).toNat = Nb := ⟨_, rfl⟩
      have Eb := Lib.hid (show b.2 = limbs Nb by rw [← hNb]; exact natOk_limbs (okS_parts HOb.out).1)
      have Lb := Lib.hid (show (limbs Nb).length ≤ 50 by rw [← Eb.out]; exact (natOk_parts (okS_parts HOb.out).1).2.1)
      have HV := Lib.hid (show makeQ a b = lowQ (!(a.1 == b.1)) Na Nb by unfold makeQ; rw [if_pos ⟨HOa.out, HOb.out⟩, hNa, hNb]; rfl)
      clear hNa hNb
      have ka_c0 := ka.here.cell 0 _ rfl
      have ka_c1 := ka.here.cell 1 _ rfl
      have kb_c0 := kb.here.cell 0 _ rfl
      have kb_c1 := kb.here.cell 1 _ rfl
      go_wp2_with fail
      clear ka_c0 ka_c1 kb_c0 kb_c1
      refine (lowX_any _ _ _ a.2 b.2 Na Nb _ La.out Lb.out Ea.out Eb.out (OIa.out _ bb2) (OIb.out _ bb2)).mono ?_
      rintro e w3 ⟨uf, Sf, rfl, of, lf, b3⟩
      obtain ⟨Af, cf, Bf, df, rfl⟩ := ownQ_form of.here
      have bb3 := Below.next bb2 b3
      replace ka := ka.below b3
      replace kb := kb.below b3
      replace ko := ko.below b3
      have HW := Lib.hid (newQb_at (r := w.heap.size + 1 + 1) (b := (lowQ (!(a.1 == b.1)) Na Nb).2) of lf (by have := HKO.out; omega) (by omega) bb3)
      have cz0 := ko.here.cell 0 _ rfl
      have fz0 := Lib.frozen_of_heap ko.here 0
      have cz1 := ko.here.cell 1 _ rfl
      have fz1 := Lib.frozen_of_heap ko.here 1
      have cz2 := ko.here.cell 2 _ rfl
      have fz2 := Lib.frozen_of_heap ko.here 2
      clear of ko
      go_wp2
      refine bodyPost_ret (v := .tuple #[.agg #[.bool _, .slice Af _ cf, .slice Bf _ df], .bool _]) (by simp [results, Tryz.results74, go_sem, cz0, cz1, cz2]; exact ⟨⟨rfl, rfl, rfl⟩, rfl⟩) rfl ?_
      rw [HV.out]
      exact HW.out
    · have okb' : okS b = false := by simpa using okb
      have HV := Lib.hid (show makeQ a b = (zeroQ, false) by unfold makeQ; rw [if_neg (fun h => okb h.2)])
      rw [okb']
      clear okb okb'
      have ko_c0 := ko.here.cell 0 _ rfl
      have ko_c1 := ko.here.cell 1 _ rfl
      have ko_c2 := ko.here.cell 2 _ rfl
      have cz0 := ko.here.cell 0 _ rfl
      have fz0 := Lib.frozen_of_heap ko.here 0
      have cz1 := ko.here.cell 1 _ rfl
      have fz1 := Lib.frozen_of_heap ko.here 1
      have cz2 := ko.here.cell 2 _ rfl
      have fz2 := Lib.frozen_of_heap ko.here 2
      go_wp2
      refine bodyPost_ret (v := .tuple #[.agg #[.bool false, .slice none 0 0, .slice none 0 0], .bool false]) (by simp [results, Tryz.results74, go_sem, cz0, cz1, cz2]) rfl ?_
      rw [HV.out]
      first | exact newQb_zero _ bb2 | exact newQb_zero _ (below_set3 bb2 (by omega))
  · have oka' : okS a = false := by simpa using oka
    have HV := Lib.hid (show makeQ a b = (zeroQ, false) by unfold makeQ; rw [if_neg (fun h => oka h.1)])
    rw [oka']
    clear oka oka'
    have ko_c0 := ko.here.cell 0 _ rfl
    have ko_c1 := ko.here.cell 1 _ rfl
    have ko_c2 := ko.here.cell 2 _ rfl
    have cz0 := ko.here.cell 0 _ rfl
    have fz0 := Lib.frozen_of_heap ko.here 0
    have cz1 := ko.here.cell 1 _ rfl
    have fz1 := Lib.frozen_of_heap ko.here 1
    have cz2 := ko.here.cell 2 _ rfl
    have fz2 := Lib.frozen_of_heap ko.here 2
    go_wp2
    refine bodyPost_ret (v := .tuple #[.agg #[.bool false, .slice none 0 0, .slice none 0 0], .bool false]) (by simp [results, Tryz.results74, go_sem, cz0, cz1, cz2]) rfl ?_
    rw [HV.out]
    first | exact newQb_zero _ bb1 | exact newQb_zero _ (below_set3 bb1 (by omega))
set_option maxHeartbeats 2000000 in
set_option maxRecDepth 100000 in
theorem specRatInt_any (va : Value) (a : SI) (w : World) (hza : szS a ≤ 1048576) (ha : OwnS va a w) :
    Calls Tryz.prog 46 #[va] w (PostQb (makeQ a (ofZ 1)).1 (makeQ a (ofZ 1)).2 w) := by
  have Ha := Lib.hid ha
  obtain ⟨Aa, ca, rfl⟩ := ownS_form ha
  have OSa := Lib.hid (show ∀ W, Below w.heap.size w W → OwnS (.agg #[.bool a.1, .slice Aa a.2.length ca]) a W from fun W hb => OwnS.below Ha.out hb)
  have OIa := Lib.hid (show ∀ W, Below w.heap.size w W → OwnI (.slice Aa a.2.length ca) a.2 W from fun W hb => ownS_open (OSa.out W hb))
  clear ha
  have bb0 : Below w.heap.size w ((w.alloc (.cells #[.bool a.1, .slice Aa a.2.length ca] 31)).alloc (.cells #[.bool false, .slice none 0 0, .slice none 0 0] 35)) := below_al (below_al (Below.refl _ _) _) _
  have ka := (box_new w #[.bool a.1, .slice Aa a.2.length ca] 31).below (below_al (Below.refl _ _) (.cells #[.bool false, .slice none 0 0, .slice none 0 0] 35))
  have ko := (box_new (w.alloc (.cells #[.bool a.1, .slice Aa a.2.length ca] 31)) #[.bool false, .slice none 0 0, .slice none 0 0] 35)
  rw [show (w.alloc (.cells #[.bool a.1, .slice Aa a.2.length ca] 31)).heap.size = w.heap.size + 1 by simp] at ko
  have HKO := Lib.hid (ko.lt (w.heap.size + 1) (by simp))
  obtain ⟨Q, hQ⟩ : ∃ Q, makeQ a (ofZ 1) = Q := ⟨_, rfl⟩
  have EQ := Lib.hid hQ
  rw [hQ]
  clear hQ
  obtain ⟨W0, hW0⟩ : ∃ W0, W0 = ((w.alloc (.cells #[.bool a.1, .slice Aa a.2.length ca] 31)).alloc (.cells #[.bool false, .slice none 0 0, .slice none 0 0] 35)) := ⟨_, rfl⟩
  rw [← hW0] at bb0 ka ko HKO
  have HW0 := Lib.hid hW0
  clear hW0
  have hz0 := HKO.out
  go_enter Tryz.func46, Tryz.ntmps46
  have ka_c0 := ka.here.cell 0 _ rfl
  have ka_c1 := ka.here.cell 1 _ rfl
  go_wp2_with fail
  rw [← HW0.out]
  have HC0 := Lib.hid (show Chg [w.heap.size + 1] W0 W0.drew from (Chg.refl _ _).drew1)
  have HCr := Lib.hid (show Chg [w.heap.size + 1] W0 W0 from Chg.refl _ _)
  have KL := Lib.hid (show ∀ W, Chg [w.heap.size + 1] W0 W → W.cell? ⟨w.heap.size, 0, none⟩ = some (.bool a.1) ∧ W.cell? ⟨w.heap.size, 1, none⟩ = some (.slice Aa a.2.length ca) ∧ Hid (Chg [w.heap.size + 1] W0 W) from fun W hc => ⟨(ka.chg hc (fun i hi hm => by simp at hi hm; omega)).here.cell 0 _ rfl, (ka.chg hc (fun i hi hm => by simp at hi hm; omega)).here.cell 1 _ rfl, Lib.hid hc⟩)
  have BBF := Lib.hid (show ∀ W, Chg [w.heap.size + 1] W0 W → Below w.heap.size w W from fun W hc => below_chg bb0 hc bb0.size (fun i hi => by simp at hi; omega))
  clear ka_c0 ka_c1
  go_region_held3 (fun W => W.cell? ⟨w.heap.size, 0, none⟩ = some (.bool a.1) ∧ W.cell? ⟨w.heap.size, 1, none⟩ = some (.slice Aa a.2.length ca) ∧ Hid (Chg [w.heap.size + 1] W0 W))
    ((refine KL.out _ ?_; (first | exact HC2.out | exact HC1.out | exact HCr.out | exact HC0.out | exact HC2.out.drew1 | exact HC1.out.drew1 | exact HCr.out.drew1 | exact HC0.out.drew1 | exact HC2.out.trans (Chg.of_below (below_al (Below.refl _ _) _)) | exact HC1.out.trans (Chg.of_below (below_al (Below.refl _ _) _)) | exact HCr.out.trans (Chg.of_below (below_al (Below.refl _ _) _)) | exact HC0.out.trans (Chg.of_below (below_al (Below.refl _ _) _)) | exact (Chg.setCell HC2.out (by simp) _) | exact (Chg.setCell (Chg.setCell HC2.out (by simp) _) (by simp) _) | exact (Chg.setCell (Chg.setCell (Chg.setCell HC2.out (by simp) _) (by simp) _) (by simp) _) | fail)))
    (first
      | (go_at_call 47; (have hBB := (‹_ ∧ _ ∧ Hid (Chg [w.heap.size + 1] W0 _)›).2.2); (with_reducible refine ((specIntOf_any 1 _ (by decide) (by decide)).mono fun _ _ h => NewS.newV h).mono ?_); rintro e w1 ⟨ui, Si, rfl, oi, li, b1⟩; have HC1 := Lib.hid (hBB.out.trans (Chg.of_below b1)); (have ko_1 := At.below (by first | exact ko | exact At.below ko (below_al (Below.refl _ _) _) | exact At.below (At.below ko (below_al (Below.refl _ _) _)) (below_al (Below.refl _ _) _) | exact At.move ko (fun _ _ => rfl) (Nat.le_refl _)) b1); obtain ⟨Ai, ci, rfl⟩ := ownS_form oi.here; have HBZ1 := Lib.hid hBB.out.size; clear hBB)
      | (go_at_call 74; (have hBB := (‹_ ∧ _ ∧ Hid (Chg [w.heap.size + 1] W0 _)›).2.2); (with_reducible refine ((specRatMake_any _ _ a (ofZ 1) _ hza one_szS (OSa.out _ (BBF.out _ hBB.out)) (At.here (by first | exact oi | exact At.below oi (below_al (Below.refl _ _) _) | exact At.below (At.below oi (below_al (Below.refl _ _) _)) (below_al (Below.refl _ _) _) | exact At.move oi (fun _ _ => rfl) (Nat.le_refl _)))).mono fun _ _ h => postQb_eq EQ.out h).mono ?_); rintro e w2 ⟨uf, Sf, rfl, of, lf, b2⟩; have HC2 := Lib.hid (hBB.out.trans (Chg.of_below b2)); (have ko_2 := At.below (by first | exact ko_1 | exact At.below ko_1 (below_al (Below.refl _ _) _) | exact At.below (At.below ko_1 (below_al (Below.refl _ _) _)) (below_al (Below.refl _ _) _) | exact At.move ko_1 (fun _ _ => rfl) (Nat.le_refl _)) b2); (have oi_2 := At.below (by first | exact oi | exact At.below oi (below_al (Below.refl _ _) _) | exact At.below (At.below oi (below_al (Below.refl _ _) _)) (below_al (Below.refl _ _) _) | exact At.move oi (fun _ _ => rfl) (Nat.le_refl _)) b2); obtain ⟨Af, cf, Bf, df, rfl⟩ := ownQ_form of.here; have cz0 := ko_2.here.cell 0 _ rfl; have fz0 := Lib.frozen_of_heap ko_2.here 0; have cz1 := ko_2.here.cell 1 _ rfl; have fz1 := Lib.frozen_of_heap ko_2.here 1; have cz2 := ko_2.here.cell 2 _ rfl; have fz2 := Lib.frozen_of_heap ko_2.here 2; have HBZ2 := Lib.hid hBB.out.size; clear hBB))
  have bb2 := BBF.out _ HC2.out
  replace ka := ka.chg HC2.out (fun i hi hm => by simp at hi hm; omega)
  replace ko := ko_2
  have oi := oi_2
  have HW := Lib.hid (newQb_at (r := w.heap.size + 1) (b := Q.2) of lf (by have := HBZ2.out; omega) (by omega) bb2)
  clear of ko ka oi
  go_wp2
  refine bodyPost_ret (v := .tuple #[.agg #[.bool _, .slice Af _ cf, .slice Bf _ df], .bool _]) (by simp [results, Tryz.results46, go_sem, cz0, cz1, cz2]; exact ⟨⟨rfl, rfl, rfl⟩, rfl⟩) rfl ?_
  exact HW.out
end Go.Proofs.YtofehcpapdlcnaaGreatDoor

namespace Go.Proofs.YtofehcpapdlcnaaGreatDoor
open Go.RowKit

def ratM (m : MI) : QI := if okM m = true then (makeQ m.2 (ofZ 1)).1 else zeroQ
set_option maxHeartbeats 2000000 in
set_option maxRecDepth 100000 in
theorem specMoneyRat_any (vm : Value) (m : MI) (w : World) (hz : szS m.2 ≤ 1048576) (hm : OwnM vm m w) : Calls Tryz.prog 32 #[vm] w (NewV (fun v => OwnQ v (ratM m)) w) := by
  have Hm := Lib.hid hm
  obtain ⟨Am, cm, rfl⟩ := ownM_form hm
  have OMm := Lib.hid (show ∀ W, Below w.heap.size w W → OwnM (.agg #[.string m.1, .bool m.2.1, .slice Am m.2.2.length cm]) m W from fun W hb => OwnM.below Hm.out hb)
  have OSm := Lib.hid (show ∀ W, Below w.heap.size w W → OwnS (.agg #[.bool m.2.1, .slice Am m.2.2.length cm]) m.2 W from fun W hb => OwnS.mk (ownM_open (OMm.out W hb)))
  clear hm
  have hl : m.2.2.length ≤ 1048576 := by unfold szS szI at hz; omega
  have bb0 : Below w.heap.size w ((w.alloc (.cells #[.string m.1, .bool m.2.1, .slice Am m.2.2.length cm] 33)).alloc (.cells #[.bool false, .slice none 0 0, .slice none 0 0] 35)) := below_al (below_al (Below.refl _ _) _) _
  have km := (box_new w #[.string m.1, .bool m.2.1, .slice Am m.2.2.length cm] 33).below (below_al (Below.refl _ _) (.cells #[.bool false, .slice none 0 0, .slice none 0 0] 35))
  have ko := box_new (w.alloc (.cells #[.string m.1, .bool m.2.1, .slice Am m.2.2.length cm] 33)) #[.bool false, .slice none 0 0, .slice none 0 0] 35
  rw [show (w.alloc (.cells #[.string m.1, .bool m.2.1, .slice Am m.2.2.length cm] 33)).heap.size = w.heap.size + 1 by simp] at ko
  have hko := ko.lt (w.heap.size + 1) (by simp)
  have HKO := Lib.hid hko
  go_enter Tryz.func32, Tryz.ntmps32
  have km_c0 := km.here.cell 0 _ rfl
  have km_c1 := km.here.cell 1 _ rfl
  have km_c2 := km.here.cell 2 _ rfl
  go_wp2_with fail
  clear km_c0 km_c1 km_c2 hko
  refine (specMoneyOk_any _ m _ hl (OMm.out _ bb0)).mono ?_
  rintro e w1 ⟨rfl, b1⟩
  have bb1 := Below.next bb0 b1
  replace km := km.below b1
  replace ko := ko.below b1
  by_cases hk : okM m = true
  · rw [hk]
    have HV := Lib.hid (show ratM m = (makeQ m.2 (ofZ 1)).1 by unfold ratM; rw [if_pos hk])
    clear hk
    have km_c0 := km.here.cell 0 _ rfl
    have km_c1 := km.here.cell 1 _ rfl
    have km_c2 := km.here.cell 2 _ rfl
    go_wp2_with fail
    clear km_c0 km_c1 km_c2
    refine (specRatInt_any _ m.2 _ hz (OSm.out _ bb1)).mono ?_
    generalize makeQ m.2 (ofZ 1) = Q at *
    rintro e w2 ⟨uf, Sf, rfl, of, lf, b2⟩
    obtain ⟨Af, cf, Bf, df, rfl⟩ := ownQ_form of.here
    have bb2 := Below.next bb1 b2
    have al := below_al (Below.refl w2.heap.size w2) (.cells #[.bool Q.1.1.1, .slice Af Q.1.1.2.length cf, .slice Bf Q.1.2.length df] 35)
    have kr := box_new w2 #[.bool Q.1.1.1, .slice Af Q.1.1.2.length cf, .slice Bf Q.1.2.length df] 35
    have z1 := b1.size
    have hz0 := HKO.out
    have HW := Lib.hid (newV_chg (φ := fun v => OwnQ v Q.1) (T := [w.heap.size + 1]) (of.below al) (fun i hi hm => by have := (lf i hi).1; simp at hm; omega) (fun i hi => by simp at hi; omega) (fun i hi => by have := (lf i hi).1; have := bb1.size; omega) (Below.next bb2 al))
    have ko2 := (ko.below b2).below al
    have cz0 := ko2.here.cell 0 _ rfl
    have cz1 := ko2.here.cell 1 _ rfl
    have cz2 := ko2.here.cell 2 _ rfl
    have fz0 := Lib.frozen_of_heap ko2.here 0
    have fz1 := Lib.frozen_of_heap ko2.here 1
    have fz2 := Lib.frozen_of_heap ko2.here 2
    have kr0 := kr.here.cell 0 _ rfl
    have kr1 := kr.here.cell 1 _ rfl
    have kr2 := kr.here.cell 2 _ rfl
    clear ko ko2 of al kr km bb2 b2 hz0
    go_wp2
    refine bodyPost_ret (v := .agg #[.bool Q.1.1.1, .slice Af Q.1.1.2.length cf, .slice Bf Q.1.2.length df]) (by simp [results, Tryz.results32, go_sem, cz0, cz1, cz2]) rfl ?_
    rw [HV.out]
    refine HW.out _ ?_
    repeat (first | exact Chg.refl _ _ | refine Chg.setCell ?_ (by simp) _)
  · have hk' : okM m = false := by simpa using hk
    rw [hk']
    have HV := Lib.hid (show ratM m = zeroQ by unfold ratM; rw [if_neg hk])
    clear hk hk'
    have cz0 := ko.here.cell 0 _ rfl
    have cz1 := ko.here.cell 1 _ rfl
    have cz2 := ko.here.cell 2 _ rfl
    have fz0 := Lib.frozen_of_heap ko.here 0
    have fz1 := Lib.frozen_of_heap ko.here 1
    have fz2 := Lib.frozen_of_heap ko.here 2
    have HW := Lib.hid (newV_chg (φ := fun v => OwnQ v zeroQ) (v := .agg #[.bool false, .slice none 0 0, .slice none 0 0]) (T := [w.heap.size + 1]) (S := []) ⟨⟨_, _, rfl, World.ownsRow_nil _ _ _ _, World.ownsRow_nil _ _ _ _, fun g hg => by cases hg⟩, fun _ hg => absurd hg List.not_mem_nil, fun w' _ => ⟨_, _, rfl, World.ownsRow_nil _ _ _ _, World.ownsRow_nil _ _ _ _, fun g hg => by cases hg⟩⟩ (fun i hi => absurd hi List.not_mem_nil) (fun i hi => by simp at hi; omega) (fun i hi => absurd hi List.not_mem_nil) bb1)
    clear ko km
    go_wp2
    refine bodyPost_ret (v := .agg #[.bool false, .slice none 0 0, .slice none 0 0]) (by simp [results, Tryz.results32, go_sem, cz0, cz1, cz2]) rfl ?_
    rw [HV.out]
    refine HW.out _ ?_
    repeat (first | exact Chg.refl _ _ | refine Chg.setCell ?_ (by simp) _)
end Go.Proofs.YtofehcpapdlcnaaGreatDoor

namespace Go.Proofs.YtofehcpapdlcnaaGreatDoor
open Go.RowKit

/-- the fraction of a rate, none where it is no tax rate -/
def taxQ (a : DI) : QI := if taxB a = true then ratD a else zeroQ
theorem taxQ_yes {a : DI} (h : taxB a = true) : taxQ a = ratD a := if_pos h
theorem taxQ_no {a : DI} (h : taxB a = false) : taxQ a = zeroQ := if_neg (by rw [h]; decide)
theorem mulQ_zlX (x : QI) : (mulQ zeroQ x).1 = zeroQ := by unfold mulQ; rw [if_neg (fun h => by have := h.1; rw [show okQ zeroQ = false from rfl] at this; cases this)]
theorem mulQ_zrX (x : QI) : (mulQ x zeroQ).1 = zeroQ := by unfold mulQ; rw [if_neg (fun h => by have := h.2; rw [show okQ zeroQ = false from rfl] at this; cases this)]
theorem mulQ_szX (x y : QI) : szQ (mulQ x y).1 ≤ 1048576 := by unfold mulQ; split; exact lowQ_sz _ _ _; decide
theorem ratM_szX (a : MI) : szQ (ratM a) ≤ 1048576 := by unfold ratM; split; (unfold makeQ; split; exact lowQ_sz _ _ _; decide); decide
theorem taxQ_sz (a : DI) : szQ (taxQ a) ≤ 1048576 := by
  unfold taxQ
  split
  · unfold ratD; split; (unfold makeQ; split; exact lowQ_sz _ _ _; decide); decide
  · decide
theorem rm_zero (cu : ByteArray) (m : Int) : rmM cu zeroQ m = zeroM ∧ rmQ cu zeroQ m = zeroQ ∧ rmB cu zeroQ m = false := by
  have hb : restB zeroQ m = false := by
    have h : (roundR zeroQ m).2 = false := by
      unfold roundR
      rw [if_neg (fun h => by have := h.1; rw [show okQ zeroQ = false from rfl] at this; cases this)]
    unfold restB
    rw [h]
    rfl
  exact rm_bad (.inl hb)
/-- the exact tax on an amount -/
def onX (m : MI) (a : DI) : QI := (mulQ (ratM m) (taxQ a)).1
theorem onX_noM {m : MI} {a : DI} (h : okM m = false) : onX m a = zeroQ := by
  unfold onX ratM
  rw [if_neg (by rw [h]; decide), mulQ_zlX]
theorem onX_noR {m : MI} {a : DI} (h : taxB a = false) : onX m a = zeroQ := by unfold onX; rw [taxQ_no h, mulQ_zrX]
theorem onX_sz (m : MI) (a : DI) : szQ (onX m a) ≤ 1048576 := mulQ_szX _ _
end Go.Proofs.YtofehcpapdlcnaaGreatDoor

namespace Go.Proofs.YtofehcpapdlcnaaGreatDoor
open Go.RowKit

theorem postMQb_isX {x x' : MI} {y y' : QI} {b b' : Bool} (e1 : x = x') (e2 : y = y') (e3 : b = b') {w w' : World} {e : Ending} (h : PostMQb x y b w e w') : PostMQb x' y' b' w e w' := by subst e1 e2 e3; exact h
end Go.Proofs.YtofehcpapdlcnaaGreatDoor

namespace Go.Proofs.YtofehcpapdlcnaaGreatDoor
open Go.RowKit

set_option maxHeartbeats 1000000 in
set_option maxRecDepth 100000 in
theorem specDecOk_any (vd : Value) (d : DI) (w : World) (hl : d.1.2.length ≤ 1048576) (hd : OwnD vd d w) :
    Calls Tryz.prog 69 #[vd] w (Postb (okD d) w) := by
  have Hd := Lib.hid hd
  obtain ⟨Ad, cd, rfl⟩ := ownD_form hd
  have ODd := Lib.hid (show ∀ W, Below w.heap.size w W → OwnD (.agg #[.bool d.1.1, .slice Ad d.1.2.length cd, .int .i64 d.2]) d W from fun W hb => OwnD.below Hd.out hb)
  have OId := Lib.hid (show ∀ W, Below w.heap.size w W → OwnI (.slice Ad d.1.2.length cd) d.1.2 W from fun W hb => ownD_open (ODd.out W hb))
  have OSd := Lib.hid (show ∀ W, Below w.heap.size w W → OwnS (.agg #[.bool d.1.1, .slice Ad d.1.2.length cd]) d.1 W from fun W hb => OwnS.mk (OId.out W hb))
  clear hd
  have bb0 : Below w.heap.size w (w.alloc (.cells #[.bool d.1.1, .slice Ad d.1.2.length cd, .int .i64 d.2] 40)) := below_al (Below.refl _ _) _
  have kd := (box_new w #[.bool d.1.1, .slice Ad d.1.2.length cd, .int .i64 d.2] 40)
  go_enter Tryz.func69, Tryz.ntmps69
  have kd_c0 := kd.here.cell 0 _ rfl
  have kd_c1 := kd.here.cell 1 _ rfl
  have kd_c2 := kd.here.cell 2 _ rfl
  go_wp2_with fail
  clear kd_c0 kd_c1 kd_c2
  refine (specIntOk_any _ d.1 _ hl (OwnS.rd (OSd.out _ bb0))).mono ?_
  rintro e w1 ⟨rfl, b1⟩
  have bb1 := Below.next bb0 b1
  replace kd := kd.below b1
  by_cases ok1 : okS d.1 = true
  · rw [ok1]
    have HO1 := Lib.hid ok1
    clear ok1
    by_cases hs : d.1.2.length ≤ 6
    · have HV0 := Lib.hid (show okD d = decide (0 ≤ d.2 ∧ d.2 ≤ 30) by unfold okD; rw [HO1.out, decide_eq_true hs]; rfl)
      have hs6 : (d.1.2.length : Int) ≤ 6 := by omega
      have hs7 : ¬ (6 : Int) < (d.1.2.length : Int) := by omega
      clear hs
      have kd_c0 := kd.here.cell 0 _ rfl
      have kd_c1 := kd.here.cell 1 _ rfl
      have kd_c2 := kd.here.cell 2 _ rfl
      go_wp2_with fail
      clear kd_c0 kd_c1 kd_c2
      refine (specIn_any d.2 0 30 _ _ rfl).mono ?_
      rintro e w_ ⟨rfl, rfl⟩
      have HV := Lib.hid (show okD d = inB d.2 0 30 from HV0.out)
      generalize inB d.2 0 30 = b at *
      clear kd
      go_wp2
      go_ret
      exact ⟨ret_bool HV.out.symm, bb1⟩
    · have HV := Lib.hid (show okD d = false by unfold okD; rw [decide_eq_false hs, Bool.false_and, Bool.and_false])
      have hs6 : ¬ (d.1.2.length : Int) ≤ 6 := by omega
      have hs7 : (6 : Int) < (d.1.2.length : Int) := by omega
      clear hs
      have kd_c0 := kd.here.cell 0 _ rfl
      have kd_c1 := kd.here.cell 1 _ rfl
      have kd_c2 := kd.here.cell 2 _ rfl
      go_wp2
      go_ret
      exact ⟨ret_bool HV.out.symm, bb1⟩
  · have ok1' : okS d.1 = false := by simpa using ok1
    have HV := Lib.hid (show okD d = false by unfold okD; rw [ok1']; rfl)
    rw [ok1']
    clear ok1 ok1'
    go_wp2
    go_ret
    exact ⟨ret_bool HV.out.symm, bb1⟩
set_option maxHeartbeats 1000000 in
set_option maxRecDepth 100000 in
theorem l07Ten_any (k : Int) (w : World) : Calls Tryz.prog 75 #[.int .i64 k] w (NewV (fun u => OwnS u (tenS k)) w) := by
  have bb0 : Below w.heap.size w (w.alloc (.cells #[.bool false, .slice none 0 0] 31)) := below_al (Below.refl _ _) _
  have ko := (box_new w #[.bool false, .slice none 0 0] 31)
  have HKO := Lib.hid (ko.lt w.heap.size (by simp))
  go_enter Tryz.func75, Tryz.ntmps75
  go_wp2_with fail
  refine (specNatTen_any k _).mono ?_
  rintro e w1 ⟨v, rfl, o0, b1⟩
  obtain ⟨Af, cf, rfl⟩ := own_len o0
  have bb1 := Below.next bb0 b1
  replace ko := ko.below b1
  have of := (own_at' o0).imp (fun _ h => (OwnS.mk h : OwnS (.agg #[.bool (tenS k).1, .slice Af (tenN k).length cf]) (tenS k) _))
  have lf := own_within o0
  clear o0
  have HR := Lib.hid (newV_chg (φ := fun u => OwnS u (tenS k)) (v := .agg #[.bool false, .slice Af (tenN k).length cf]) (T := [w.heap.size]) of (fun i hi hm => by have := lf i hi; have := HKO.out; simp at hm; omega) (fun i hi => by simp at hi; omega) (fun i hi => by have := lf i hi; have := HKO.out; omega) bb1)
  have cz0 := ko.here.cell 0 _ rfl
  have fz0 := Lib.frozen_of_heap ko.here 0
  have cz1 := ko.here.cell 1 _ rfl
  have fz1 := Lib.frozen_of_heap ko.here 1
  clear of ko
  go_wp2
  refine bodyPost_ret (v := .agg #[.bool false, .slice Af (tenN k).length cf]) (by simp [results, Tryz.results75, go_sem, cz0, cz1]) rfl ?_
  refine HR.out _ ?_
  repeat (first | exact Chg.refl _ _ | refine Chg.setCell ?_ (by simp) _)
end Go.Proofs.YtofehcpapdlcnaaGreatDoor

namespace Go.Proofs.YtofehcpapdlcnaaGreatDoor
open Go.RowKit

/-- what a call answers: two new signed numbers (and an int) -/
def PostSS (X Y : SI) (w : World) (e : Ending) (w' : World) : Prop :=
  ∃ (u v : Value) (S T : List Nat), e = .returned (.tuple #[u, v]) ∧ At S (OwnS u X) w' ∧ At T (OwnS v Y) w' ∧ Within S w.heap.size w'.heap.size ∧ Within T w.heap.size w'.heap.size ∧ Below w.heap.size w w'
def PostSSn (X Y : SI) (n : Int) (w : World) (e : Ending) (w' : World) : Prop :=
  ∃ (u v : Value) (S T : List Nat), e = .returned (.tuple #[u, v, .int .i64 n]) ∧ At S (OwnS u X) w' ∧ At T (OwnS v Y) w' ∧ Within S w.heap.size w'.heap.size ∧ Within T w.heap.size w'.heap.size ∧ Below w.heap.size w w'
theorem postSSn_chg {S T R : List Nat} {u v : Value} {X Y : SI} {n : Int} {w W : World} (o : At S (OwnS u X) W) (q : At T (OwnS v Y) W) (hS : ∀ i ∈ S, i ∉ R) (hT : ∀ i ∈ T, i ∉ R) (hR : ∀ i ∈ R, w.heap.size ≤ i) (lS : ∀ i ∈ S, w.heap.size ≤ i) (lT : ∀ i ∈ T, w.heap.size ≤ i) (hW : Below w.heap.size w W) :
    ∀ W', Chg R W W' → PostSSn X Y n w (.returned (.tuple #[u, v, .int .i64 n])) W' :=
  fun _ hc => ⟨u, v, S, T, rfl, o.chg hc hS, q.chg hc hT, fun i hi => ⟨lS i hi, Nat.lt_of_lt_of_le (o.lt i hi) hc.size⟩, fun i hi => ⟨lT i hi, Nat.lt_of_lt_of_le (q.lt i hi) hc.size⟩, below_chg hW hc hW.size hR⟩
theorem postSS_chg {S T R : List Nat} {u v : Value} {X Y : SI} {w W : World} (o : At S (OwnS u X) W) (q : At T (OwnS v Y) W) (hS : ∀ i ∈ S, i ∉ R) (hT : ∀ i ∈ T, i ∉ R) (hR : ∀ i ∈ R, w.heap.size ≤ i) (lS : ∀ i ∈ S, w.heap.size ≤ i) (lT : ∀ i ∈ T, w.heap.size ≤ i) (hW : Below w.heap.size w W) :
    ∀ W', Chg R W W' → PostSS X Y w (.returned (.tuple #[u, v])) W' :=
  fun _ hc => ⟨u, v, S, T, rfl, o.chg hc hS, q.chg hc hT, fun i hi => ⟨lS i hi, Nat.lt_of_lt_of_le (o.lt i hi) hc.size⟩, fun i hi => ⟨lT i hi, Nat.lt_of_lt_of_le (q.lt i hi) hc.size⟩, below_chg hW hc hW.size hR⟩
theorem newVS_eqD {x y : SI} (h : x = y) {w w' : World} {e : Ending} (k : NewV (fun v => OwnS v x) w e w') : NewV (fun v => OwnS v y) w e w' := h ▸ k
theorem newS_is {x y : SI} (h : x = y) {w w' : World} {e : Ending} (k : NewS x w e w') : NewV (fun v => OwnS v y) w e w' := by subst h; exact k.newV
/-- a number at the greater scale -/
def upS (a : DI) (s : Int) : SI := mulS a.1 (tenS (s - a.2))
theorem upS_len (a : DI) (s : Int) : (upS a s).2.length ≤ 50 := by unfold upS mulS; split; exact ofZ_len _; decide
theorem tenS_len (k : Int) : (tenS k).2.length ≤ 1048576 := by have := tenN_len k; show (tenN k).length ≤ _; omega
theorem topD_max (a b : DI) : max a.2 b.2 = topD a b := by unfold topD; split <;> omega
theorem topD_lt {a b : DI} (h : a.2 < b.2) : topD a b = b.2 := if_pos h
theorem topD_ge {a b : DI} (h : ¬ a.2 < b.2) : topD a b = a.2 := if_neg h
set_option maxHeartbeats 4000000 in
set_option maxRecDepth 100000 in
theorem l07Both_any (va vb : Value) (a b : DI) (w : World) (pa : okD a = true) (pb : okD b = true) (ha : OwnD va a w) (hb : OwnD vb b w) :
    Calls Tryz.prog 123 #[va, vb] w (PostSSn (upS a (topD a b)) (upS b (topD a b)) (topD a b) w) := by
  have Ha := Lib.hid ha
  obtain ⟨Aa, ca, rfl⟩ := ownD_form ha
  have ODa := Lib.hid (show ∀ W, Below w.heap.size w W → OwnD (.agg #[.bool a.1.1, .slice Aa a.1.2.length ca, .int .i64 a.2]) a W from fun W hb => OwnD.below Ha.out hb)
  have OIa := Lib.hid (show ∀ W, Below w.heap.size w W → OwnI (.slice Aa a.1.2.length ca) a.1.2 W from fun W hb => ownD_open (ODa.out W hb))
  have OSa := Lib.hid (show ∀ W, Below w.heap.size w W → OwnS (.agg #[.bool a.1.1, .slice Aa a.1.2.length ca]) a.1 W from fun W hb => OwnS.mk (OIa.out W hb))
  clear ha
  have Hb := Lib.hid hb
  obtain ⟨Ab, cb, rfl⟩ := ownD_form hb
  have ODb := Lib.hid (show ∀ W, Below w.heap.size w W → OwnD (.agg #[.bool b.1.1, .slice Ab b.1.2.length cb, .int .i64 b.2]) b W from fun W hb => OwnD.below Hb.out hb)
  have OIb := Lib.hid (show ∀ W, Below w.heap.size w W → OwnI (.slice Ab b.1.2.length cb) b.1.2 W from fun W hb => ownD_open (ODb.out W hb))
  have OSb := Lib.hid (show ∀ W, Below w.heap.size w W → OwnS (.agg #[.bool b.1.1, .slice Ab b.1.2.length cb]) b.1 W from fun W hb => OwnS.mk (OIb.out W hb))
  clear hb
  have qa := partsD pa
  have qb := partsD pb
  have la := qa.len
  have lb := qb.len
  have ta := qa.lo
  have ta2 := qa.hi
  have tb := qb.lo
  have tb2 := qb.hi
  clear qa qb pa pb
  have bb0 : Below w.heap.size w ((((w.alloc (.cells #[.bool a.1.1, .slice Aa a.1.2.length ca, .int .i64 a.2] 40)).alloc (.cells #[.bool b.1.1, .slice Ab b.1.2.length cb, .int .i64 b.2] 40)).alloc (.cells #[.bool false, .slice none 0 0] 31)).alloc (.cells #[.bool false, .slice none 0 0] 31)) := below_al (below_al (below_al (below_al (Below.refl _ _) _) _) _) _
  have ka := (box_new w #[.bool a.1.1, .slice Aa a.1.2.length ca, .int .i64 a.2] 40).below (below_al (below_al (below_al (Below.refl _ _) (.cells #[.bool b.1.1, .slice Ab b.1.2.length cb, .int .i64 b.2] 40)) (.cells #[.bool false, .slice none 0 0] 31)) (.cells #[.bool false, .slice none 0 0] 31))
  have kb := (box_new (w.alloc (.cells #[.bool a.1.1, .slice Aa a.1.2.length ca, .int .i64 a.2] 40)) #[.bool b.1.1, .slice Ab b.1.2.length cb, .int .i64 b.2] 40).below (below_al (below_al (Below.refl _ _) (.cells #[.bool false, .slice none 0 0] 31)) (.cells #[.bool false, .slice none 0 0] 31))
  rw [show (w.alloc (.cells #[.bool a.1.1, .slice Aa a.1.2.length ca, .int .i64 a.2] 40)).heap.size = w.heap.size + 1 by simp] at kb
  have kp := (box_new ((w.alloc (.cells #[.bool a.1.1, .slice Aa a.1.2.length ca, .int .i64 a.2] 40)).alloc (.cells #[.bool b.1.1, .slice Ab b.1.2.length cb, .int .i64 b.2] 40)) #[.bool false, .slice none 0 0] 31).below (below_al (Below.refl _ _) (.cells #[.bool false, .slice none 0 0] 31))
  rw [show ((w.alloc (.cells #[.bool a.1.1, .slice Aa a.1.2.length ca, .int .i64 a.2] 40)).alloc (.cells #[.bool b.1.1, .slice Ab b.1.2.length cb, .int .i64 b.2] 40)).heap.size = w.heap.size + 1 + 1 by simp] at kp
  have kq := (box_new (((w.alloc (.cells #[.bool a.1.1, .slice Aa a.1.2.length ca, .int .i64 a.2] 40)).alloc (.cells #[.bool b.1.1, .slice Ab b.1.2.length cb, .int .i64 b.2] 40)).alloc (.cells #[.bool false, .slice none 0 0] 31)) #[.bool false, .slice none 0 0] 31)
  rw [show (((w.alloc (.cells #[.bool a.1.1, .slice Aa a.1.2.length ca, .int .i64 a.2] 40)).alloc (.cells #[.bool b.1.1, .slice Ab b.1.2.length cb, .int .i64 b.2] 40)).alloc (.cells #[.bool false, .slice none 0 0] 31)).heap.size = w.heap.size + 1 + 1 + 1 by simp] at kq
  have HKP := Lib.hid (kp.lt (w.heap.size + 1 + 1) (by simp))
  have HKQ := Lib.hid (kq.lt (w.heap.size + 1 + 1 + 1) (by simp))
  obtain ⟨W0, hW0⟩ : ∃ W0, W0 = ((((w.alloc (.cells #[.bool a.1.1, .slice Aa a.1.2.length ca, .int .i64 a.2] 40)).alloc (.cells #[.bool b.1.1, .slice Ab b.1.2.length cb, .int .i64 b.2] 40)).alloc (.cells #[.bool false, .slice none 0 0] 31)).alloc (.cells #[.bool false, .slice none 0 0] 31)) := ⟨_, rfl⟩
  rw [← hW0] at bb0 ka kb kp kq HKP HKQ
  have HW0 := Lib.hid hW0
  clear hW0
  by_cases hlt : a.2 < b.2
  · have ET := Lib.hid (topD_lt hlt)
    rw [ET.out]
    have hw0 : IntKind.i64.wrap 0 = 0 := IntWalk.i64_in _ (by omega)
    obtain ⟨ja, hja⟩ : ∃ j, IntKind.i64.wrap (b.2 - a.2) = j := ⟨_, rfl⟩
    have hka : ja = b.2 - a.2 := by rw [← hja]; exact IntWalk.i64_in _ (by omega)
    have Ea := Lib.hid (show mulS a.1 (tenS ja) = upS a (b.2) by rw [hka]; rfl)
    clear hka
    have Eb := Lib.hid (show mulS b.1 (tenS 0) = upS b (b.2) by unfold upS; rw [Int.sub_self])
    obtain ⟨X, hX⟩ : ∃ X, upS a (b.2) = X := ⟨_, rfl⟩
    obtain ⟨Y, hY⟩ : ∃ Y, upS b (b.2) = Y := ⟨_, rfl⟩
    rw [hX] at Ea
    rw [hY] at Eb
    rw [hX, hY]
    clear hX hY
    go_enter Tryz.func123, Tryz.ntmps123
    have hko := HKP.out
    have hko2 := HKQ.out
    have ka_c0 := ka.here.cell 0 _ rfl
    have ka_c1 := ka.here.cell 1 _ rfl
    have ka_c2 := ka.here.cell 2 _ rfl
    have kb_c0 := kb.here.cell 0 _ rfl
    have kb_c1 := kb.here.cell 1 _ rfl
    have kb_c2 := kb.here.cell 2 _ rfl
    rw [HW0.out] at ka_c0 ka_c1 ka_c2 kb_c0 kb_c1 kb_c2
    go_wp2_with fail
    rw [← HW0.out]
    clear ka_c0 ka_c1 ka_c2 kb_c0 kb_c1 kb_c2
    have HC0 := Lib.hid (show Chg [w.heap.size + 1 + 1, w.heap.size + 1 + 1 + 1] W0 W0.drew from (Chg.refl _ _).drew1)
    have HCr := Lib.hid (show Chg [w.heap.size + 1 + 1, w.heap.size + 1 + 1 + 1] W0 W0 from Chg.refl _ _)
    have KL := Lib.hid (show ∀ W, Chg [w.heap.size + 1 + 1, w.heap.size + 1 + 1 + 1] W0 W → W.cell? ⟨w.heap.size, 0, none⟩ = some (.bool a.1.1) ∧ W.cell? ⟨w.heap.size, 1, none⟩ = some (.slice Aa a.1.2.length ca) ∧ W.cell? ⟨w.heap.size, 2, none⟩ = some (.int .i64 a.2) ∧ W.cell? ⟨w.heap.size + 1, 0, none⟩ = some (.bool b.1.1) ∧ W.cell? ⟨w.heap.size + 1, 1, none⟩ = some (.slice Ab b.1.2.length cb) ∧ W.cell? ⟨w.heap.size + 1, 2, none⟩ = some (.int .i64 b.2) ∧ Hid (Chg [w.heap.size + 1 + 1, w.heap.size + 1 + 1 + 1] W0 W) from fun W hc => ⟨(ka.chg hc (fun i hi hm => by simp at hi hm; omega)).here.cell 0 _ rfl, (ka.chg hc (fun i hi hm => by simp at hi hm; omega)).here.cell 1 _ rfl, (ka.chg hc (fun i hi hm => by simp at hi hm; omega)).here.cell 2 _ rfl, (kb.chg hc (fun i hi hm => by simp at hi hm; omega)).here.cell 0 _ rfl, (kb.chg hc (fun i hi hm => by simp at hi hm; omega)).here.cell 1 _ rfl, (kb.chg hc (fun i hi hm => by simp at hi hm; omega)).here.cell 2 _ rfl, Lib.hid hc⟩)
    have BBF := Lib.hid (show ∀ W, Chg [w.heap.size + 1 + 1, w.heap.size + 1 + 1 + 1] W0 W → Below w.heap.size w W from fun W hc => below_chg bb0 hc bb0.size (fun i hi => by simp at hi; omega))
    go_region_held3 (fun W => W.cell? ⟨w.heap.size, 0, none⟩ = some (.bool a.1.1) ∧ W.cell? ⟨w.heap.size, 1, none⟩ = some (.slice Aa a.1.2.length ca) ∧ W.cell? ⟨w.heap.size, 2, none⟩ = some (.int .i64 a.2) ∧ W.cell? ⟨w.heap.size + 1, 0, none⟩ = some (.bool b.1.1) ∧ W.cell? ⟨w.heap.size + 1, 1, none⟩ = some (.slice Ab b.1.2.length cb) ∧ W.cell? ⟨w.heap.size + 1, 2, none⟩ = some (.int .i64 b.2) ∧ Hid (Chg [w.heap.size + 1 + 1, w.heap.size + 1 + 1 + 1] W0 W))
      ((refine KL.out _ ?_; (repeat with_reducible refine Chg.setCell ?_ (by simp) _); (first | with_reducible exact HC4.out | with_reducible exact HC3.out | with_reducible exact HC2.out | with_reducible exact HC1.out | with_reducible exact HCr.out | with_reducible exact HC0.out | with_reducible exact HC4.out.drew1 | with_reducible exact HC3.out.drew1 | with_reducible exact HC2.out.drew1 | with_reducible exact HC1.out.drew1 | with_reducible exact HCr.out.drew1 | with_reducible exact HC0.out.drew1 | fail)))
      (first
        | (go_at_call 75; (have hBB := (‹_ ∧ _ ∧ _ ∧ _ ∧ _ ∧ _ ∧ Hid (Chg [w.heap.size + 1 + 1, w.heap.size + 1 + 1 + 1] W0 _)›).2.2.2.2.2.2); (with_reducible refine (l07Ten_any ja _).mono ?_); rintro e w1 ⟨ut1, St1, rfl, ot1, lt1, b1⟩; have HC1 := Lib.hid (hBB.out.trans (Chg.of_below b1)); (have kp_1 := At.below (by first | exact kp | exact At.below kp (below_al (Below.refl _ _) _) | exact At.below (At.below kp (below_al (Below.refl _ _) _)) (below_al (Below.refl _ _) _) | exact At.move kp (fun _ _ => rfl) (Nat.le_refl _)) b1); (have kq_1 := At.below (by first | exact kq | exact At.below kq (below_al (Below.refl _ _) _) | exact At.below (At.below kq (below_al (Below.refl _ _) _)) (below_al (Below.refl _ _) _) | exact At.move kq (fun _ _ => rfl) (Nat.le_refl _)) b1); obtain ⟨At1, ct1, rfl⟩ := ownS_form ot1.here; have HBZ1 := Lib.hid hBB.out.size; clear hBB)
        | (go_at_call 98; (have hBB := (‹_ ∧ _ ∧ _ ∧ _ ∧ _ ∧ _ ∧ Hid (Chg [w.heap.size + 1 + 1, w.heap.size + 1 + 1 + 1] W0 _)›).2.2.2.2.2.2); (with_reducible refine ((specIntMul_any _ _ a.1 (tenS ja) _ (by omega) (tenS_len _) (OSa.out _ (BBF.out _ hBB.out)) (At.here (by first | exact ot1 | exact At.below ot1 (below_al (Below.refl _ _) _) | exact At.below (At.below ot1 (below_al (Below.refl _ _) _)) (below_al (Below.refl _ _) _) | exact At.move ot1 (fun _ _ => rfl) (Nat.le_refl _)))).mono fun _ _ h => newS_is Ea.out h).mono ?_); rintro e w2 ⟨um1, Sm1, rfl, om1, lm1, b2⟩; have HC2 := Lib.hid (hBB.out.trans (Chg.of_below b2)); (have kp_2 := At.below (by first | exact kp_1 | exact At.below kp_1 (below_al (Below.refl _ _) _) | exact At.below (At.below kp_1 (below_al (Below.refl _ _) _)) (below_al (Below.refl _ _) _) | exact At.move kp_1 (fun _ _ => rfl) (Nat.le_refl _)) b2); (have kq_2 := At.below (by first | exact kq_1 | exact At.below kq_1 (below_al (Below.refl _ _) _) | exact At.below (At.below kq_1 (below_al (Below.refl _ _) _)) (below_al (Below.refl _ _) _) | exact At.move kq_1 (fun _ _ => rfl) (Nat.le_refl _)) b2); (have ot1_2 := At.below (by first | exact ot1 | exact At.below ot1 (below_al (Below.refl _ _) _) | exact At.below (At.below ot1 (below_al (Below.refl _ _) _)) (below_al (Below.refl _ _) _) | exact At.move ot1 (fun _ _ => rfl) (Nat.le_refl _)) b2); obtain ⟨Am1, cm1, rfl⟩ := ownS_form om1.here; have HBZ2 := Lib.hid hBB.out.size; clear hBB)
        | (go_at_call 75; (have hBB := (‹_ ∧ _ ∧ _ ∧ _ ∧ _ ∧ _ ∧ Hid (Chg [w.heap.size + 1 + 1, w.heap.size + 1 + 1 + 1] W0 _)›).2.2.2.2.2.2); (with_reducible refine (l07Ten_any 0 _).mono ?_); rintro e w3 ⟨ut2, St2, rfl, ot2, lt2, b3⟩; have HC3 := Lib.hid (hBB.out.trans (Chg.of_below b3)); (have kp_3 := At.below (by first | exact kp_2 | exact At.below kp_2 (below_al (Below.refl _ _) _) | exact At.below (At.below kp_2 (below_al (Below.refl _ _) _)) (below_al (Below.refl _ _) _) | exact At.move kp_2 (fun _ _ => rfl) (Nat.le_refl _)) b3); (have kq_3 := At.below (by first | exact kq_2 | exact At.below kq_2 (below_al (Below.refl _ _) _) | exact At.below (At.below kq_2 (below_al (Below.refl _ _) _)) (below_al (Below.refl _ _) _) | exact At.move kq_2 (fun _ _ => rfl) (Nat.le_refl _)) b3); (have ot1_3 := At.below (by first | exact ot1_2 | exact At.below ot1_2 (below_al (Below.refl _ _) _) | exact At.below (At.below ot1_2 (below_al (Below.refl _ _) _)) (below_al (Below.refl _ _) _) | exact At.move ot1_2 (fun _ _ => rfl) (Nat.le_refl _)) b3); (have om1_3 := At.below (by first | exact om1 | exact At.below om1 (below_al (Below.refl _ _) _) | exact At.below (At.below om1 (below_al (Below.refl _ _) _)) (below_al (Below.refl _ _) _) | exact At.move om1 (fun _ _ => rfl) (Nat.le_refl _)) b3); obtain ⟨At2, ct2, rfl⟩ := ownS_form ot2.here; have HBZ3 := Lib.hid hBB.out.size; clear hBB)
        | (go_at_call 98; (have hBB := (‹_ ∧ _ ∧ _ ∧ _ ∧ _ ∧ _ ∧ Hid (Chg [w.heap.size + 1 + 1, w.heap.size + 1 + 1 + 1] W0 _)›).2.2.2.2.2.2); (with_reducible refine ((specIntMul_any _ _ b.1 (tenS 0) _ (by omega) (tenS_len _) (OSb.out _ (BBF.out _ hBB.out)) (At.here (by first | exact ot2 | exact At.below ot2 (below_al (Below.refl _ _) _) | exact At.below (At.below ot2 (below_al (Below.refl _ _) _)) (below_al (Below.refl _ _) _) | exact At.move ot2 (fun _ _ => rfl) (Nat.le_refl _)))).mono fun _ _ h => newS_is Eb.out h).mono ?_); rintro e w4 ⟨um2, Sm2, rfl, om2, lm2, b4⟩; have HC4 := Lib.hid (hBB.out.trans (Chg.of_below b4)); (have kp_4 := At.below (by first | exact kp_3 | exact At.below kp_3 (below_al (Below.refl _ _) _) | exact At.below (At.below kp_3 (below_al (Below.refl _ _) _)) (below_al (Below.refl _ _) _) | exact At.move kp_3 (fun _ _ => rfl) (Nat.le_refl _)) b4); (have kq_4 := At.below (by first | exact kq_3 | exact At.below kq_3 (below_al (Below.refl _ _) _) | exact At.below (At.below kq_3 (below_al (Below.refl _ _) _)) (below_al (Below.refl _ _) _) | exact At.move kq_3 (fun _ _ => rfl) (Nat.le_refl _)) b4); (have ot1_4 := At.below (by first | exact ot1_3 | exact At.below ot1_3 (below_al (Below.refl _ _) _) | exact At.below (At.below ot1_3 (below_al (Below.refl _ _) _)) (below_al (Below.refl _ _) _) | exact At.move ot1_3 (fun _ _ => rfl) (Nat.le_refl _)) b4); (have om1_4 := At.below (by first | exact om1_3 | exact At.below om1_3 (below_al (Below.refl _ _) _) | exact At.below (At.below om1_3 (below_al (Below.refl _ _) _)) (below_al (Below.refl _ _) _) | exact At.move om1_3 (fun _ _ => rfl) (Nat.le_refl _)) b4); (have ot2_4 := At.below (by first | exact ot2 | exact At.below ot2 (below_al (Below.refl _ _) _) | exact At.below (At.below ot2 (below_al (Below.refl _ _) _)) (below_al (Below.refl _ _) _) | exact At.move ot2 (fun _ _ => rfl) (Nat.le_refl _)) b4); obtain ⟨Am2, cm2, rfl⟩ := ownS_form om2.here; have czp0 := kp_4.here.cell 0 _ rfl; have fzp0 := Lib.frozen_of_heap kp_4.here 0; have czp1 := kp_4.here.cell 1 _ rfl; have fzp1 := Lib.frozen_of_heap kp_4.here 1; have czq0 := kq_4.here.cell 0 _ rfl; have fzq0 := Lib.frozen_of_heap kq_4.here 0; have czq1 := kq_4.here.cell 1 _ rfl; have fzq1 := Lib.frozen_of_heap kq_4.here 1; have HBZ4 := Lib.hid hBB.out.size; clear hBB))
    have bb4 := BBF.out _ HC4.out
    replace ka := ka.chg HC4.out (fun i hi hm => by simp at hi hm; omega)
    replace kb := kb.chg HC4.out (fun i hi hm => by simp at hi hm; omega)
    replace kp := kp_4
    replace kq := kq_4
    have ot1 := ot1_4
    have om1 := om1_4
    have ot2 := ot2_4
    have z1 := HBZ4.out
    have zb1 := HBZ1.out
    have zb2 := HBZ2.out
    have zb3 := HBZ3.out
    have HW := Lib.hid (postSSn_chg (n := b.2) (R := [w.heap.size + 1 + 1, w.heap.size + 1 + 1 + 1]) om1 om2 (fun i hi hm => by have := lm1 i hi; simp at hm; omega) (fun i hi hm => by have := lm2 i hi; simp at hm; omega) (fun i hi => by simp at hi; omega) (fun i hi => by have := lm1 i hi; omega) (fun i hi => by have := lm2 i hi; omega) bb4)
    go_wp2
    refine bodyPost_ret (v := .tuple #[.agg #[.bool X.1, .slice Am1 X.2.length cm1], .agg #[.bool Y.1, .slice Am2 Y.2.length cm2], .int .i64 (b.2)]) (by simp [results, Tryz.results123, go_sem, czp0, czp1, czq0, czq1]) rfl ?_
    refine HW.out _ ?_
    repeat (first | exact Chg.refl _ _ | refine Chg.setCell ?_ (by simp) _)
  · have ET := Lib.hid (topD_ge hlt)
    rw [ET.out]
    have hw0 : IntKind.i64.wrap 0 = 0 := IntWalk.i64_in _ (by omega)
    have Ea := Lib.hid (show mulS a.1 (tenS 0) = upS a (a.2) by unfold upS; rw [Int.sub_self])
    obtain ⟨jb, hjb⟩ : ∃ j, IntKind.i64.wrap (a.2 - b.2) = j := ⟨_, rfl⟩
    have hkb : jb = a.2 - b.2 := by rw [← hjb]; exact IntWalk.i64_in _ (by omega)
    have Eb := Lib.hid (show mulS b.1 (tenS jb) = upS b (a.2) by rw [hkb]; rfl)
    clear hkb
    obtain ⟨X, hX⟩ : ∃ X, upS a (a.2) = X := ⟨_, rfl⟩
    obtain ⟨Y, hY⟩ : ∃ Y, upS b (a.2) = Y := ⟨_, rfl⟩
    rw [hX] at Ea
    rw [hY] at Eb
    rw [hX, hY]
    clear hX hY
    go_enter Tryz.func123, Tryz.ntmps123
    have hko := HKP.out
    have hko2 := HKQ.out
    have ka_c0 := ka.here.cell 0 _ rfl
    have ka_c1 := ka.here.cell 1 _ rfl
    have ka_c2 := ka.here.cell 2 _ rfl
    have kb_c0 := kb.here.cell 0 _ rfl
    have kb_c1 := kb.here.cell 1 _ rfl
    have kb_c2 := kb.here.cell 2 _ rfl
    rw [HW0.out] at ka_c0 ka_c1 ka_c2 kb_c0 kb_c1 kb_c2
    go_wp2_with fail
    rw [← HW0.out]
    clear ka_c0 ka_c1 ka_c2 kb_c0 kb_c1 kb_c2
    have HC0 := Lib.hid (show Chg [w.heap.size + 1 + 1, w.heap.size + 1 + 1 + 1] W0 W0.drew from (Chg.refl _ _).drew1)
    have HCr := Lib.hid (show Chg [w.heap.size + 1 + 1, w.heap.size + 1 + 1 + 1] W0 W0 from Chg.refl _ _)
    have KL := Lib.hid (show ∀ W, Chg [w.heap.size + 1 + 1, w.heap.size + 1 + 1 + 1] W0 W → W.cell? ⟨w.heap.size, 0, none⟩ = some (.bool a.1.1) ∧ W.cell? ⟨w.heap.size, 1, none⟩ = some (.slice Aa a.1.2.length ca) ∧ W.cell? ⟨w.heap.size, 2, none⟩ = some (.int .i64 a.2) ∧ W.cell? ⟨w.heap.size + 1, 0, none⟩ = some (.bool b.1.1) ∧ W.cell? ⟨w.heap.size + 1, 1, none⟩ = some (.slice Ab b.1.2.length cb) ∧ W.cell? ⟨w.heap.size + 1, 2, none⟩ = some (.int .i64 b.2) ∧ Hid (Chg [w.heap.size + 1 + 1, w.heap.size + 1 + 1 + 1] W0 W) from fun W hc => ⟨(ka.chg hc (fun i hi hm => by simp at hi hm; omega)).here.cell 0 _ rfl, (ka.chg hc (fun i hi hm => by simp at hi hm; omega)).here.cell 1 _ rfl, (ka.chg hc (fun i hi hm => by simp at hi hm; omega)).here.cell 2 _ rfl, (kb.chg hc (fun i hi hm => by simp at hi hm; omega)).here.cell 0 _ rfl, (kb.chg hc (fun i hi hm => by simp at hi hm; omega)).here.cell 1 _ rfl, (kb.chg hc (fun i hi hm => by simp at hi hm; omega)).here.cell 2 _ rfl, Lib.hid hc⟩)
    have BBF := Lib.hid (show ∀ W, Chg [w.heap.size + 1 + 1, w.heap.size + 1 + 1 + 1] W0 W → Below w.heap.size w W from fun W hc => below_chg bb0 hc bb0.size (fun i hi => by simp at hi; omega))
    go_region_held3 (fun W => W.cell? ⟨w.heap.size, 0, none⟩ = some (.bool a.1.1) ∧ W.cell? ⟨w.heap.size, 1, none⟩ = some (.slice Aa a.1.2.length ca) ∧ W.cell? ⟨w.heap.size, 2, none⟩ = some (.int .i64 a.2) ∧ W.cell? ⟨w.heap.size + 1, 0, none⟩ = some (.bool b.1.1) ∧ W.cell? ⟨w.heap.size + 1, 1, none⟩ = some (.slice Ab b.1.2.length cb) ∧ W.cell? ⟨w.heap.size + 1, 2, none⟩ = some (.int .i64 b.2) ∧ Hid (Chg [w.heap.size + 1 + 1, w.heap.size + 1 + 1 + 1] W0 W))
      ((refine KL.out _ ?_; (repeat with_reducible refine Chg.setCell ?_ (by simp) _); (first | with_reducible exact HC4.out | with_reducible exact HC3.out | with_reducible exact HC2.out | with_reducible exact HC1.out | with_reducible exact HCr.out | with_reducible exact HC0.out | with_reducible exact HC4.out.drew1 | with_reducible exact HC3.out.drew1 | with_reducible exact HC2.out.drew1 | with_reducible exact HC1.out.drew1 | with_reducible exact HCr.out.drew1 | with_reducible exact HC0.out.drew1 | fail)))
      (first
        | (go_at_call 75; (have hBB := (‹_ ∧ _ ∧ _ ∧ _ ∧ _ ∧ _ ∧ Hid (Chg [w.heap.size + 1 + 1, w.heap.size + 1 + 1 + 1] W0 _)›).2.2.2.2.2.2); (with_reducible refine (l07Ten_any 0 _).mono ?_); rintro e w1 ⟨ut1, St1, rfl, ot1, lt1, b1⟩; have HC1 := Lib.hid (hBB.out.trans (Chg.of_below b1)); (have kp_1 := At.below (by first | exact kp | exact At.below kp (below_al (Below.refl _ _) _) | exact At.below (At.below kp (below_al (Below.refl _ _) _)) (below_al (Below.refl _ _) _) | exact At.move kp (fun _ _ => rfl) (Nat.le_refl _)) b1); (have kq_1 := At.below (by first | exact kq | exact At.below kq (below_al (Below.refl _ _) _) | exact At.below (At.below kq (below_al (Below.refl _ _) _)) (below_al (Below.refl _ _) _) | exact At.move kq (fun _ _ => rfl) (Nat.le_refl _)) b1); obtain ⟨At1, ct1, rfl⟩ := ownS_form ot1.here; have HBZ1 := Lib.hid hBB.out.size; clear hBB)
        | (go_at_call 98; (have hBB := (‹_ ∧ _ ∧ _ ∧ _ ∧ _ ∧ _ ∧ Hid (Chg [w.heap.size + 1 + 1, w.heap.size + 1 + 1 + 1] W0 _)›).2.2.2.2.2.2); (with_reducible refine ((specIntMul_any _ _ a.1 (tenS 0) _ (by omega) (tenS_len _) (OSa.out _ (BBF.out _ hBB.out)) (At.here (by first | exact ot1 | exact At.below ot1 (below_al (Below.refl _ _) _) | exact At.below (At.below ot1 (below_al (Below.refl _ _) _)) (below_al (Below.refl _ _) _) | exact At.move ot1 (fun _ _ => rfl) (Nat.le_refl _)))).mono fun _ _ h => newS_is Ea.out h).mono ?_); rintro e w2 ⟨um1, Sm1, rfl, om1, lm1, b2⟩; have HC2 := Lib.hid (hBB.out.trans (Chg.of_below b2)); (have kp_2 := At.below (by first | exact kp_1 | exact At.below kp_1 (below_al (Below.refl _ _) _) | exact At.below (At.below kp_1 (below_al (Below.refl _ _) _)) (below_al (Below.refl _ _) _) | exact At.move kp_1 (fun _ _ => rfl) (Nat.le_refl _)) b2); (have kq_2 := At.below (by first | exact kq_1 | exact At.below kq_1 (below_al (Below.refl _ _) _) | exact At.below (At.below kq_1 (below_al (Below.refl _ _) _)) (below_al (Below.refl _ _) _) | exact At.move kq_1 (fun _ _ => rfl) (Nat.le_refl _)) b2); (have ot1_2 := At.below (by first | exact ot1 | exact At.below ot1 (below_al (Below.refl _ _) _) | exact At.below (At.below ot1 (below_al (Below.refl _ _) _)) (below_al (Below.refl _ _) _) | exact At.move ot1 (fun _ _ => rfl) (Nat.le_refl _)) b2); obtain ⟨Am1, cm1, rfl⟩ := ownS_form om1.here; have HBZ2 := Lib.hid hBB.out.size; clear hBB)
        | (go_at_call 75; (have hBB := (‹_ ∧ _ ∧ _ ∧ _ ∧ _ ∧ _ ∧ Hid (Chg [w.heap.size + 1 + 1, w.heap.size + 1 + 1 + 1] W0 _)›).2.2.2.2.2.2); (with_reducible refine (l07Ten_any jb _).mono ?_); rintro e w3 ⟨ut2, St2, rfl, ot2, lt2, b3⟩; have HC3 := Lib.hid (hBB.out.trans (Chg.of_below b3)); (have kp_3 := At.below (by first | exact kp_2 | exact At.below kp_2 (below_al (Below.refl _ _) _) | exact At.below (At.below kp_2 (below_al (Below.refl _ _) _)) (below_al (Below.refl _ _) _) | exact At.move kp_2 (fun _ _ => rfl) (Nat.le_refl _)) b3); (have kq_3 := At.below (by first | exact kq_2 | exact At.below kq_2 (below_al (Below.refl _ _) _) | exact At.below (At.below kq_2 (below_al (Below.refl _ _) _)) (below_al (Below.refl _ _) _) | exact At.move kq_2 (fun _ _ => rfl) (Nat.le_refl _)) b3); (have ot1_3 := At.below (by first | exact ot1_2 | exact At.below ot1_2 (below_al (Below.refl _ _) _) | exact At.below (At.below ot1_2 (below_al (Below.refl _ _) _)) (below_al (Below.refl _ _) _) | exact At.move ot1_2 (fun _ _ => rfl) (Nat.le_refl _)) b3); (have om1_3 := At.below (by first | exact om1 | exact At.below om1 (below_al (Below.refl _ _) _) | exact At.below (At.below om1 (below_al (Below.refl _ _) _)) (below_al (Below.refl _ _) _) | exact At.move om1 (fun _ _ => rfl) (Nat.le_refl _)) b3); obtain ⟨At2, ct2, rfl⟩ := ownS_form ot2.here; have HBZ3 := Lib.hid hBB.out.size; clear hBB)
        | (go_at_call 98; (have hBB := (‹_ ∧ _ ∧ _ ∧ _ ∧ _ ∧ _ ∧ Hid (Chg [w.heap.size + 1 + 1, w.heap.size + 1 + 1 + 1] W0 _)›).2.2.2.2.2.2); (with_reducible refine ((specIntMul_any _ _ b.1 (tenS jb) _ (by omega) (tenS_len _) (OSb.out _ (BBF.out _ hBB.out)) (At.here (by first | exact ot2 | exact At.below ot2 (below_al (Below.refl _ _) _) | exact At.below (At.below ot2 (below_al (Below.refl _ _) _)) (below_al (Below.refl _ _) _) | exact At.move ot2 (fun _ _ => rfl) (Nat.le_refl _)))).mono fun _ _ h => newS_is Eb.out h).mono ?_); rintro e w4 ⟨um2, Sm2, rfl, om2, lm2, b4⟩; have HC4 := Lib.hid (hBB.out.trans (Chg.of_below b4)); (have kp_4 := At.below (by first | exact kp_3 | exact At.below kp_3 (below_al (Below.refl _ _) _) | exact At.below (At.below kp_3 (below_al (Below.refl _ _) _)) (below_al (Below.refl _ _) _) | exact At.move kp_3 (fun _ _ => rfl) (Nat.le_refl _)) b4); (have kq_4 := At.below (by first | exact kq_3 | exact At.below kq_3 (below_al (Below.refl _ _) _) | exact At.below (At.below kq_3 (below_al (Below.refl _ _) _)) (below_al (Below.refl _ _) _) | exact At.move kq_3 (fun _ _ => rfl) (Nat.le_refl _)) b4); (have ot1_4 := At.below (by first | exact ot1_3 | exact At.below ot1_3 (below_al (Below.refl _ _) _) | exact At.below (At.below ot1_3 (below_al (Below.refl _ _) _)) (below_al (Below.refl _ _) _) | exact At.move ot1_3 (fun _ _ => rfl) (Nat.le_refl _)) b4); (have om1_4 := At.below (by first | exact om1_3 | exact At.below om1_3 (below_al (Below.refl _ _) _) | exact At.below (At.below om1_3 (below_al (Below.refl _ _) _)) (below_al (Below.refl _ _) _) | exact At.move om1_3 (fun _ _ => rfl) (Nat.le_refl _)) b4); (have ot2_4 := At.below (by first | exact ot2 | exact At.below ot2 (below_al (Below.refl _ _) _) | exact At.below (At.below ot2 (below_al (Below.refl _ _) _)) (below_al (Below.refl _ _) _) | exact At.move ot2 (fun _ _ => rfl) (Nat.le_refl _)) b4); obtain ⟨Am2, cm2, rfl⟩ := ownS_form om2.here; have czp0 := kp_4.here.cell 0 _ rfl; have fzp0 := Lib.frozen_of_heap kp_4.here 0; have czp1 := kp_4.here.cell 1 _ rfl; have fzp1 := Lib.frozen_of_heap kp_4.here 1; have czq0 := kq_4.here.cell 0 _ rfl; have fzq0 := Lib.frozen_of_heap kq_4.here 0; have czq1 := kq_4.here.cell 1 _ rfl; have fzq1 := Lib.frozen_of_heap kq_4.here 1; have HBZ4 := Lib.hid hBB.out.size; clear hBB))
    have bb4 := BBF.out _ HC4.out
    replace ka := ka.chg HC4.out (fun i hi hm => by simp at hi hm; omega)
    replace kb := kb.chg HC4.out (fun i hi hm => by simp at hi hm; omega)
    replace kp := kp_4
    replace kq := kq_4
    have ot1 := ot1_4
    have om1 := om1_4
    have ot2 := ot2_4
    have z1 := HBZ4.out
    have zb1 := HBZ1.out
    have zb2 := HBZ2.out
    have zb3 := HBZ3.out
    have HW := Lib.hid (postSSn_chg (n := a.2) (R := [w.heap.size + 1 + 1, w.heap.size + 1 + 1 + 1]) om1 om2 (fun i hi hm => by have := lm1 i hi; simp at hm; omega) (fun i hi hm => by have := lm2 i hi; simp at hm; omega) (fun i hi => by simp at hi; omega) (fun i hi => by have := lm1 i hi; omega) (fun i hi => by have := lm2 i hi; omega) bb4)
    go_wp2
    refine bodyPost_ret (v := .tuple #[.agg #[.bool X.1, .slice Am1 X.2.length cm1], .agg #[.bool Y.1, .slice Am2 Y.2.length cm2], .int .i64 (a.2)]) (by simp [results, Tryz.results123, go_sem, czp0, czp1, czq0, czq1]) rfl ?_
    refine HW.out _ ?_
    repeat (first | exact Chg.refl _ _ | refine Chg.setCell ?_ (by simp) _)
set_option maxHeartbeats 4000000 in
set_option maxRecDepth 100000 in
theorem specDecCmp_any (va vb : Value) (a b : DI) (w : World) (hla : a.1.2.length ≤ 1048576) (hlb : b.1.2.length ≤ 1048576) (ha : OwnD va a w) (hb : OwnD vb b w) :
    Calls Tryz.prog 70 #[va, vb] w (Postn (cmpD a b) w) := by
  have Ha := Lib.hid ha
  obtain ⟨Aa, ca, rfl⟩ := ownD_form ha
  have ODa := Lib.hid (show ∀ W, Below w.heap.size w W → OwnD (.agg #[.bool a.1.1, .slice Aa a.1.2.length ca, .int .i64 a.2]) a W from fun W hb => OwnD.below Ha.out hb)
  have OIa := Lib.hid (show ∀ W, Below w.heap.size w W → OwnI (.slice Aa a.1.2.length ca) a.1.2 W from fun W hb => ownD_open (ODa.out W hb))
  have OSa := Lib.hid (show ∀ W, Below w.heap.size w W → OwnS (.agg #[.bool a.1.1, .slice Aa a.1.2.length ca]) a.1 W from fun W hb => OwnS.mk (OIa.out W hb))
  clear ha
  have Hb := Lib.hid hb
  obtain ⟨Ab, cb, rfl⟩ := ownD_form hb
  have ODb := Lib.hid (show ∀ W, Below w.heap.size w W → OwnD (.agg #[.bool b.1.1, .slice Ab b.1.2.length cb, .int .i64 b.2]) b W from fun W hb => OwnD.below Hb.out hb)
  have OIb := Lib.hid (show ∀ W, Below w.heap.size w W → OwnI (.slice Ab b.1.2.length cb) b.1.2 W from fun W hb => ownD_open (ODb.out W hb))
  have OSb := Lib.hid (show ∀ W, Below w.heap.size w W → OwnS (.agg #[.bool b.1.1, .slice Ab b.1.2.length cb]) b.1 W from fun W hb => OwnS.mk (OIb.out W hb))
  clear hb
  have bb0 : Below w.heap.size w ((w.alloc (.cells #[.bool a.1.1, .slice Aa a.1.2.length ca, .int .i64 a.2] 40)).alloc (.cells #[.bool b.1.1, .slice Ab b.1.2.length cb, .int .i64 b.2] 40)) := below_al (below_al (Below.refl _ _) _) _
  have ka := (box_new w #[.bool a.1.1, .slice Aa a.1.2.length ca, .int .i64 a.2] 40).below (below_al (Below.refl _ _) (.cells #[.bool b.1.1, .slice Ab b.1.2.length cb, .int .i64 b.2] 40))
  have kb := (box_new (w.alloc (.cells #[.bool a.1.1, .slice Aa a.1.2.length ca, .int .i64 a.2] 40)) #[.bool b.1.1, .slice Ab b.1.2.length cb, .int .i64 b.2] 40)
  rw [show (w.alloc (.cells #[.bool a.1.1, .slice Aa a.1.2.length ca, .int .i64 a.2] 40)).heap.size = w.heap.size + 1 by simp] at kb
  go_enter Tryz.func70, Tryz.ntmps70
  have ka_c0 := ka.here.cell 0 _ rfl
  have ka_c1 := ka.here.cell 1 _ rfl
  have ka_c2 := ka.here.cell 2 _ rfl
  go_wp2_with fail
  clear ka_c0 ka_c1 ka_c2
  refine (specDecOk_any _ a _ hla (ODa.out _ bb0)).mono ?_
  rintro e w1 ⟨rfl, b1⟩
  have bb1 := Below.next bb0 b1
  replace ka := ka.below b1
  replace kb := kb.below b1
  by_cases oka : okD a = true
  · rw [oka]
    have HOa := Lib.hid oka
    clear oka
    have kb_c0 := kb.here.cell 0 _ rfl
    have kb_c1 := kb.here.cell 1 _ rfl
    have kb_c2 := kb.here.cell 2 _ rfl
    go_wp2_with fail
    clear kb_c0 kb_c1 kb_c2
    refine (specDecOk_any _ b _ hlb (ODb.out _ bb1)).mono ?_
    rintro e w2 ⟨rfl, b2⟩
    have bb2 := Below.next bb1 b2
    replace ka := ka.below b2
    replace kb := kb.below b2
    by_cases okb : okD b = true
    · rw [okb]
      have HOb := Lib.hid okb
      clear okb
      have HV := Lib.hid (show cmpS (upS a (topD a b)) (upS b (topD a b)) = cmpD a b from cmpD_is HOa.out HOb.out)
      have hX := upS_len a (topD a b)
      have hY := upS_len b (topD a b)
      have C := l07Both_any _ _ a b _ HOa.out HOb.out (ODa.out _ bb2) (ODb.out _ bb2)
      generalize upS a (topD a b) = X at *
      generalize upS b (topD a b) = Y at *
      generalize topD a b = s at *
      have HC := Lib.hid C
      clear C
      have ka_c0 := ka.here.cell 0 _ rfl
      have ka_c1 := ka.here.cell 1 _ rfl
      have ka_c2 := ka.here.cell 2 _ rfl
      have kb_c0 := kb.here.cell 0 _ rfl
      have kb_c1 := kb.here.cell 1 _ rfl
      have kb_c2 := kb.here.cell 2 _ rfl
      go_wp2_with fail
      clear ka_c0 ka_c1 ka_c2 kb_c0 kb_c1 kb_c2
      refine (HC.out).mono ?_
      rintro e w3 ⟨ux, uy, Sx, Sy, rfl, ox, oy, lx, ly, b3⟩
      obtain ⟨Ax, cx, rfl⟩ := ownS_form ox.here
      obtain ⟨Ay, cy, rfl⟩ := ownS_form oy.here
      have bb3 := Below.next bb2 b3
      replace ka := ka.below b3
      replace kb := kb.below b3
      clear ka kb
      have kx := box_new (w3) #[.bool X.1, .slice Ax X.2.length cx] 31
      have alx := below_al (Below.refl (w3).heap.size (w3)) (.cells #[.bool X.1, .slice Ax X.2.length cx] 31)
      have bbx := Below.next bb3 alx
      replace ox := ox.below alx
      replace oy := oy.below alx
      have ky := box_new (w3.alloc (.cells #[.bool X.1, .slice Ax X.2.length cx] 31)) #[.bool Y.1, .slice Ay Y.2.length cy] 31
      have aly := below_al (Below.refl (w3.alloc (.cells #[.bool X.1, .slice Ax X.2.length cx] 31)).heap.size (w3.alloc (.cells #[.bool X.1, .slice Ax X.2.length cx] 31))) (.cells #[.bool Y.1, .slice Ay Y.2.length cy] 31)
      have bby := Below.next bbx aly
      replace ox := ox.below aly
      replace oy := oy.below aly
      replace kx := kx.below aly
      rw [show (w3.alloc (.cells #[.bool X.1, .slice Ax X.2.length cx] 31)).heap.size = w3.heap.size + 1 by simp] at ky
      have kx_c0 := kx.here.cell 0 _ rfl
      have kx_c1 := kx.here.cell 1 _ rfl
      have ky_c0 := ky.here.cell 0 _ rfl
      have ky_c1 := ky.here.cell 1 _ rfl
      go_wp2_with fail
      clear kx_c0 kx_c1 ky_c0 ky_c1
      refine ((specIntCmp_any _ _ X Y _ (by omega) (by omega) ox.here oy.here).mono fun _ _ h => postn_eqD HV.out h).mono ?_
      rintro e w4 ⟨rfl, b4⟩
      have bb4 := Below.next bby b4
      replace ox := ox.below b4
      replace oy := oy.below b4
      replace kx := kx.below b4
      replace ky := ky.below b4
      clear kx ky
      go_wp2
      go_ret
      exact ⟨rfl, bb4⟩
    · have okb' : okD b = false := by simpa using okb
      have HV := Lib.hid (show cmpD a b = 0 by unfold cmpD; rw [if_neg (fun h => okb h.2)])
      rw [okb']
      clear okb okb'
      go_wp2
      go_ret
      exact ⟨ret_int HV.out.symm, bb2⟩
  · have oka' : okD a = false := by simpa using oka
    have HV := Lib.hid (show cmpD a b = 0 by unfold cmpD; rw [if_neg (fun h => oka h.1)])
    rw [oka']
    clear oka oka'
    go_wp2
    go_ret
    exact ⟨ret_int HV.out.symm, bb1⟩
end Go.Proofs.YtofehcpapdlcnaaGreatDoor

namespace Go.Proofs.YtofehcpapdlcnaaGreatDoor
open Go.RowKit

set_option maxHeartbeats 4000000 in
set_option maxRecDepth 100000 in
theorem specTaxRateOk_any (vd : Value) (d : DI) (w : World) (hl : d.1.2.length ≤ 1048576) (hd : OwnD vd d w) :
    Calls Tryz.prog 30 #[vd] w (Postb (taxB d) w) := by
  obtain ⟨⟨n, l⟩, z⟩ := d
  obtain ⟨Ad, cd, rfl⟩ := ownD_form hd
  dsimp only at hl hd ⊢
  cases n
  · have Hd := Lib.hid hd
    have ODd := Lib.hid (show ∀ W, Below w.heap.size w W → OwnD (.agg #[.bool false, .slice Ad l.length cd, .int .i64 z]) ((false, l), z) W from fun W hb => OwnD.below Hd.out hb)
    clear hd
    have bb0 : Below w.heap.size w (w.alloc (.cells #[.bool false, .slice Ad l.length cd, .int .i64 z] 40)) := below_al (Below.refl _ _) _
    have kd := (box_new w #[.bool false, .slice Ad l.length cd, .int .i64 z] 40)
    obtain ⟨W0, hW0⟩ : ∃ W0, W0 = (w.alloc (.cells #[.bool false, .slice Ad l.length cd, .int .i64 z] 40)) := ⟨_, rfl⟩
    rw [← hW0] at bb0 kd 
    have HW0 := Lib.hid hW0
    clear hW0
    by_cases ok : okD ((false, l), z) = true
    · have HO := Lib.hid ok
      have HOK := Lib.hid (show ∀ W, Below w.heap.size w W → Calls Tryz.prog 69 #[.agg #[.bool false, .slice Ad l.length cd, .int .i64 z]] W (Postb true W) from fun W hb => by have h := specDecOk_any _ ((false, l), z) W hl (ODd.out _ hb); rw [HO.out] at h; exact h)
      by_cases hs : l.length ≤ 1
      · have HV := Lib.hid (show taxB ((false, l), z) = decide (cmpD ((false, l), z) oneD ≤ 0) from taxB_is HO.out rfl hs)
        have hs1 : (l.length : Int) ≤ 1 := by omega
        clear hs ok
        obtain ⟨O, hO⟩ : ∃ O, ofZ 1 = O := ⟨_, rfl⟩
        have HOL := Lib.hid (show O.2.length ≤ 1048576 by have := ofZ_len 1; rw [hO] at this; omega)
        obtain ⟨c, hc⟩ : ∃ c, cmpD ((false, l), z) oneD = c := ⟨_, rfl⟩
        rw [hc] at HV
        have EC := Lib.hid (show cmpD ((false, l), z) (O, 0) = c by rw [← hO]; exact hc)
        have EO := Lib.hid hO
        clear hO hc
        go_enter Tryz.func30, Tryz.ntmps30
        have kd_c0 := kd.here.cell 0 _ rfl
        have kd_c1 := kd.here.cell 1 _ rfl
        have kd_c2 := kd.here.cell 2 _ rfl
        go_wp2_with fail
        rw [← HW0.out]
        have HC0 := Lib.hid (show Chg [] W0 W0.drew from (Chg.refl _ _).drew1)
        have HCr := Lib.hid (show Chg [] W0 W0 from Chg.refl _ _)
        have KL := Lib.hid (show ∀ W, Chg [] W0 W → W.cell? ⟨w.heap.size, 0, none⟩ = some (.bool false) ∧ W.cell? ⟨w.heap.size, 1, none⟩ = some (.slice Ad l.length cd) ∧ W.cell? ⟨w.heap.size, 2, none⟩ = some (.int .i64 z) ∧ Hid (Chg [] W0 W) from fun W hc => ⟨(kd.chg hc (fun i hi hm => by simp at hm)).here.cell 0 _ rfl, (kd.chg hc (fun i hi hm => by simp at hm)).here.cell 1 _ rfl, (kd.chg hc (fun i hi hm => by simp at hm)).here.cell 2 _ rfl, Lib.hid hc⟩)
        have BBF := Lib.hid (show ∀ W, Chg [] W0 W → Below w.heap.size w W from fun W hc => below_chg bb0 hc bb0.size (fun i hi => by simp at hi))
        clear kd_c0 kd_c1 kd_c2
        go_region_held3 (fun W => W.cell? ⟨w.heap.size, 0, none⟩ = some (.bool false) ∧ W.cell? ⟨w.heap.size, 1, none⟩ = some (.slice Ad l.length cd) ∧ W.cell? ⟨w.heap.size, 2, none⟩ = some (.int .i64 z) ∧ Hid (Chg [] W0 W))
          ((refine KL.out _ ?_; (first | exact HC3.out | exact HC2.out | exact HC1.out | exact HCr.out | exact HC0.out | exact HC3.out.drew1 | exact HC2.out.drew1 | exact HC1.out.drew1 | exact HCr.out.drew1 | exact HC0.out.drew1 | exact HC3.out.trans (Chg.of_below (below_al (Below.refl _ _) _)) | exact HC2.out.trans (Chg.of_below (below_al (Below.refl _ _) _)) | exact HC1.out.trans (Chg.of_below (below_al (Below.refl _ _) _)) | exact HCr.out.trans (Chg.of_below (below_al (Below.refl _ _) _)) | exact HC0.out.trans (Chg.of_below (below_al (Below.refl _ _) _)) | fail)))
          (first
            | (go_at_call 69; (have hBB := (‹_ ∧ _ ∧ _ ∧ Hid (Chg [] W0 _)›).2.2.2); (with_reducible refine (HOK.out _ (BBF.out _ hBB.out)).mono ?_); rintro e w1 ⟨rfl, b1⟩; have HC1 := Lib.hid (hBB.out.trans (Chg.of_below b1)); have HBZ1 := Lib.hid hBB.out.size; clear hBB)
            | (go_at_call 47; (have hBB := (‹_ ∧ _ ∧ _ ∧ Hid (Chg [] W0 _)›).2.2.2); (with_reducible refine ((specIntOf_any 1 _ (by omega) (by omega)).mono fun _ _ h => newS_is EO.out h).mono ?_); rintro e w2 ⟨ui, Si, rfl, oi, li, b2⟩; have HC2 := Lib.hid (hBB.out.trans (Chg.of_below b2)); obtain ⟨Ai, ci, rfl⟩ := ownS_form oi.here; have HBZ2 := Lib.hid hBB.out.size; clear hBB)
            | (go_at_call 70; (have hBB := (‹_ ∧ _ ∧ _ ∧ Hid (Chg [] W0 _)›).2.2.2); (with_reducible refine ((specDecCmp_any _ _ ((false, l), z) (O, 0) _ hl HOL.out (ODd.out _ (BBF.out _ hBB.out)) (OwnD.mk (q := (O, 0)) (ownS_openD (At.here (by first | exact oi | exact At.below oi (below_al (Below.refl _ _) _) | exact At.below (At.below oi (below_al (Below.refl _ _) _)) (below_al (Below.refl _ _) _) | exact At.move oi (fun _ _ => rfl) (Nat.le_refl _) | exact At.below (At.move (w' := W0.drew) oi (fun _ _ => rfl) (Nat.le_refl _)) (below_al (Below.refl _ _) _)))))).mono fun _ _ h => postn_eqD EC.out h).mono ?_); rintro e w3 ⟨rfl, b3⟩; have HC3 := Lib.hid (hBB.out.trans (Chg.of_below b3)); (have oi_3 := At.below (by first | exact oi | exact At.below oi (below_al (Below.refl _ _) _) | exact At.below (At.below oi (below_al (Below.refl _ _) _)) (below_al (Below.refl _ _) _) | exact At.move oi (fun _ _ => rfl) (Nat.le_refl _) | exact At.below (At.move (w' := W0.drew) oi (fun _ _ => rfl) (Nat.le_refl _)) (below_al (Below.refl _ _) _)) b3); have HBZ3 := Lib.hid hBB.out.size; clear hBB))
        have bb3 := BBF.out _ HC3.out
        replace kd := kd.chg HC3.out (fun i hi hm => by simp at hm)
        have oi := oi_3
        go_wp2
        go_ret
        exact ⟨ret_bool HV.out.symm, bb3⟩
      · have HV := Lib.hid (show taxB ((false, l), z) = false from taxB_long hs)
        have hs1 : ¬ (l.length : Int) ≤ 1 := by omega
        have hs2 : (1 : Int) < (l.length : Int) := by omega
        clear hs ok HO
        go_enter Tryz.func30, Tryz.ntmps30
        have kd_c0 := kd.here.cell 0 _ rfl
        have kd_c1 := kd.here.cell 1 _ rfl
        have kd_c2 := kd.here.cell 2 _ rfl
        go_wp2_with fail
        rw [← HW0.out]
        have hdec : decide ((l.length : Int) ≤ 1) = false := decide_eq_false (by omega)
        have HC0 := Lib.hid (show Chg [] W0 W0.drew from (Chg.refl _ _).drew1)
        have KL := Lib.hid (show ∀ W, Chg [] W0 W → W.cell? ⟨w.heap.size, 0, none⟩ = some (.bool false) ∧ W.cell? ⟨w.heap.size, 1, none⟩ = some (.slice Ad l.length cd) ∧ W.cell? ⟨w.heap.size, 2, none⟩ = some (.int .i64 z) ∧ Hid (Chg [] W0 W) from fun W hc => ⟨(kd.chg hc (fun i hi hm => by simp at hm)).here.cell 0 _ rfl, (kd.chg hc (fun i hi hm => by simp at hm)).here.cell 1 _ rfl, (kd.chg hc (fun i hi hm => by simp at hm)).here.cell 2 _ rfl, Lib.hid hc⟩)
        have BBF := Lib.hid (show ∀ W, Chg [] W0 W → Below w.heap.size w W from fun W hc => below_chg bb0 hc bb0.size (fun i hi => by simp at hi))
        clear kd_c0 kd_c1 kd_c2
        refine wp_region_held_drew (S := fun W => W.cell? ⟨w.heap.size, 0, none⟩ = some (.bool false) ∧ W.cell? ⟨w.heap.size, 1, none⟩ = some (.slice Ad l.length cd) ∧ W.cell? ⟨w.heap.size, 2, none⟩ = some (.int .i64 z) ∧ Hid (Chg [] W0 W)) (by kernel_rfl) ?_ (fun hHeld => ?_)
        · ((refine KL.out _ ?_; (first | exact HC0.out | fail)))
        refine wpAnyH_take (i := 0) (v := ?_) rfl (by kernel_rfl) (by kernel_rfl) (by kernel_rfl) (fun _ _ _ h => h) (Or.inl ⟨by kernel_rfl, ?_⟩) (by assumption) ?_
        rotate_left
        · (intro w hSw; (try dsimp only at hSw); go_simp; (try with_reducible rfl))
        (try simp only [Act.put, List.getElem_toArray, List.getElem_cons_zero, List.setIfInBounds_toArray, List.set_cons_zero, List.set_cons_succ])
        refine wpAnyH_ready (rs := [1]) (by kernel_rfl) (by simp) ?_
        refine AllReadyH.cons rfl (fun K hK => ?_) AllReadyH.nil
        go_simp
        (go_at_call 69; (have hBB := (‹_ ∧ _ ∧ _ ∧ Hid (Chg [] W0 _)›).2.2.2); (with_reducible refine (HOK.out _ (BBF.out _ hBB.out)).mono ?_); rintro e w1 ⟨rfl, b1⟩; have HC1 := Lib.hid (hBB.out.trans (Chg.of_below b1)); clear hBB)
        refine hK.out _ _ ?_ (fun hHeld => ?_)
        · ((refine KL.out _ ?_; (first | exact HC1.out | exact HC0.out | fail)))
        clear hK K
        (try simp only [Act.put, List.getElem_toArray, List.getElem_cons_zero, List.getElem_cons_succ, List.setIfInBounds_toArray, List.set_cons_zero, List.set_cons_succ])
        refine wpAnyH_take (i := 2) (v := ?_) rfl (by kernel_rfl) (by kernel_rfl) (by kernel_rfl) (fun _ _ _ h => h) (Or.inl ⟨by kernel_rfl, ?_⟩) (by assumption) ?_
        rotate_left
        · (intro w hSw; (try dsimp only at hSw); go_simp; (try with_reducible rfl))
        (try simp only [Act.put, List.getElem_toArray, List.getElem_cons_zero, List.getElem_cons_succ, List.setIfInBounds_toArray, List.set_cons_zero, List.set_cons_succ])
        refine wpAnyH_take (i := 3) (v := ?_) rfl (by kernel_rfl) (by kernel_rfl) (by kernel_rfl) (fun _ _ _ h => h) (Or.inl ⟨by kernel_rfl, ?_⟩) (by assumption) ?_
        rotate_left
        · (intro w hSw; (try dsimp only at hSw); go_simp; (try with_reducible rfl))
        (try simp only [Act.put, List.getElem_toArray, List.getElem_cons_zero, List.getElem_cons_succ, List.setIfInBounds_toArray, List.set_cons_zero, List.set_cons_succ])
        refine wpAnyH_take (i := 4) (v := ?_) rfl (by kernel_rfl) (by kernel_rfl) (by kernel_rfl) (fun _ _ _ h => h) (Or.inl ⟨by kernel_rfl, ?_⟩) (by assumption) ?_
        rotate_left
        · (intro w hSw; (try dsimp only at hSw); go_simp; (try with_reducible rfl))
        (try simp only [Act.put, List.getElem_toArray, List.getElem_cons_zero, List.getElem_cons_succ, List.setIfInBounds_toArray, List.set_cons_zero, List.set_cons_succ])
        refine wpAnyH_take (i := 5) (v := ?_) rfl (by kernel_rfl) (by kernel_rfl) (by kernel_rfl) (fun _ _ _ h => h) (Or.inl ⟨by kernel_rfl, ?_⟩) (by assumption) ?_
        rotate_left
        · (intro w hSw; (try dsimp only at hSw); go_simp; (try with_reducible rfl))
        (try simp only [Act.put, List.getElem_toArray, List.getElem_cons_zero, List.getElem_cons_succ, List.setIfInBounds_toArray, List.set_cons_zero, List.set_cons_succ])
        refine wpAnyH_take (i := 6) (v := ?_) rfl (by kernel_rfl) (by kernel_rfl) (by kernel_rfl) (fun _ _ _ h => h) (Or.inl ⟨by kernel_rfl, ?_⟩) (by assumption) ?_
        rotate_left
        · (intro w hSw; (try dsimp only at hSw); go_simp; (try with_reducible rfl))
        (try simp only [Act.put, List.getElem_toArray, List.getElem_cons_zero, List.getElem_cons_succ, List.setIfInBounds_toArray, List.set_cons_zero, List.set_cons_succ])
        refine wpAnyH_take (i := 7) (v := ?_) rfl (by kernel_rfl) (by kernel_rfl) (by kernel_rfl) (fun _ _ _ h => h) (Or.inl ⟨by kernel_rfl, ?_⟩) (by assumption) ?_
        rotate_left
        · (intro w hSw; (try dsimp only at hSw); go_simp; (try with_reducible rfl))
        (try simp only [Act.put, List.getElem_toArray, List.getElem_cons_zero, List.getElem_cons_succ, List.setIfInBounds_toArray, List.set_cons_zero, List.set_cons_succ])
        refine wpAnyH_take (i := 8) (v := ?_) rfl (by kernel_rfl) (by kernel_rfl) (by kernel_rfl) (fun _ _ _ h => h) (Or.inl ⟨by kernel_rfl, ?_⟩) (by assumption) ?_
        rotate_left
        · (intro w hSw; (try dsimp only at hSw); go_simp; (try with_reducible rfl))
        (try simp only [Act.put, List.getElem_toArray, List.getElem_cons_zero, List.getElem_cons_succ, List.setIfInBounds_toArray, List.set_cons_zero, List.set_cons_succ])
        refine wpAnyH_take (i := 9) (v := ?_) rfl (by kernel_rfl) (by kernel_rfl) (by kernel_rfl) (fun _ _ _ h => h) (Or.inl ⟨by kernel_rfl, ?_⟩) (by assumption) ?_
        rotate_left
        · (intro w hSw; (try dsimp only at hSw); go_simp; (try with_reducible rfl))
        (try simp only [Act.put, List.getElem_toArray, List.getElem_cons_zero, List.getElem_cons_succ, List.setIfInBounds_toArray, List.set_cons_zero, List.set_cons_succ])
        refine wpAnyH_take (i := 10) (v := ?_) rfl (by kernel_rfl) (by kernel_rfl) (by kernel_rfl) (fun _ _ _ h => h) (Or.inl ⟨by kernel_rfl, ?_⟩) (by assumption) ?_
        rotate_left
        · (intro w hSw; (try dsimp only at hSw); go_simp; (try with_reducible rfl))
        (try simp only [Act.put, List.getElem_toArray, List.getElem_cons_zero, List.getElem_cons_succ, List.setIfInBounds_toArray, List.set_cons_zero, List.set_cons_succ])
        refine wpAnyH_take (i := 11) (v := ?_) rfl (by kernel_rfl) (by kernel_rfl) (by kernel_rfl) (fun _ _ _ h => h) (Or.inl ⟨by kernel_rfl, ?_⟩) (by assumption) ?_
        rotate_left
        · (intro w hSw; (try dsimp only at hSw); go_simp; (try with_reducible rfl))
        (try simp only [Act.put, List.getElem_toArray, List.getElem_cons_zero, List.getElem_cons_succ, List.setIfInBounds_toArray, List.set_cons_zero, List.set_cons_succ])
        refine wpAnyH_take (i := 12) (v := ?_) rfl (by kernel_rfl) (by kernel_rfl) (by kernel_rfl) (fun _ _ _ h => h) (Or.inl ⟨by kernel_rfl, ?_⟩) (by assumption) ?_
        rotate_left
        · (intro w hSw; (try dsimp only at hSw); go_simp; (try with_reducible rfl))
        (try simp only [Act.put, List.getElem_toArray, List.getElem_cons_zero, List.getElem_cons_succ, List.setIfInBounds_toArray, List.set_cons_zero, List.set_cons_succ])
        refine wpAnyH_take (i := 13) (v := .bool false) rfl (by kernel_rfl) (by kernel_rfl) (by kernel_rfl) (fun _ _ _ h => h) (Or.inl ⟨by kernel_rfl, ?_⟩) (by assumption) ?_
        · (intro w hSw; (try dsimp only at hSw); go_simp; (try first | with_reducible rfl | (simp [hdec])))
        (try simp only [Act.put, List.getElem_toArray, List.getElem_cons_zero, List.getElem_cons_succ, List.setIfInBounds_toArray, List.set_cons_zero, List.set_cons_succ])
        refine wpAnyH_take (i := 14) (v := ?_) rfl (by kernel_rfl) (by kernel_rfl) (by kernel_rfl) (fun _ _ _ h => h) (Or.inl ⟨by kernel_rfl, ?_⟩) (by assumption) ?_
        rotate_left
        · (intro w hSw; (try dsimp only at hSw); go_simp; (try with_reducible rfl))
        (try simp only [Act.put, List.getElem_toArray, List.getElem_cons_zero, List.getElem_cons_succ, List.setIfInBounds_toArray, List.set_cons_zero, List.set_cons_succ])
        refine wpAnyH_take (i := 15) (v := ?_) rfl (by kernel_rfl) (by kernel_rfl) (by kernel_rfl) (fun _ _ _ h => h) (Or.inl ⟨by kernel_rfl, ?_⟩) (by assumption) ?_
        rotate_left
        · (intro w hSw; (try dsimp only at hSw); go_simp; (try with_reducible rfl))
        (try simp only [Act.put, List.getElem_toArray, List.getElem_cons_zero, List.getElem_cons_succ, List.setIfInBounds_toArray, List.set_cons_zero, List.set_cons_succ])
        refine wpAnyH_take (i := 16) (v := undef) rfl (by kernel_rfl) (by kernel_rfl) (by kernel_rfl) (fun _ _ _ h => h) (Or.inr ⟨by kernel_rfl, rfl⟩) (by assumption) ?_
        (try simp only [Act.put, List.getElem_toArray, List.getElem_cons_zero, List.getElem_cons_succ, List.setIfInBounds_toArray, List.set_cons_zero, List.set_cons_succ])
        refine wpAnyH_take (i := 17) (v := undef) rfl (by kernel_rfl) (by kernel_rfl) (by kernel_rfl) (fun _ _ _ h => h) (Or.inr ⟨by kernel_rfl, rfl⟩) (by assumption) ?_
        (try simp only [Act.put, List.getElem_toArray, List.getElem_cons_zero, List.getElem_cons_succ, List.setIfInBounds_toArray, List.set_cons_zero, List.set_cons_succ])
        refine wpAnyH_take (i := 18) (v := undef) rfl (by kernel_rfl) (by kernel_rfl) (by kernel_rfl) (fun _ _ _ h => h) (Or.inr ⟨by kernel_rfl, rfl⟩) (by assumption) ?_
        (try simp only [Act.put, List.getElem_toArray, List.getElem_cons_zero, List.getElem_cons_succ, List.setIfInBounds_toArray, List.set_cons_zero, List.set_cons_succ])
        refine wpAnyH_take (i := 19) (v := undef) rfl (by kernel_rfl) (by kernel_rfl) (by kernel_rfl) (fun _ _ _ h => h) (Or.inr ⟨by kernel_rfl, rfl⟩) (by assumption) ?_
        (try simp only [Act.put, List.getElem_toArray, List.getElem_cons_zero, List.getElem_cons_succ, List.setIfInBounds_toArray, List.set_cons_zero, List.set_cons_succ])
        refine wpAnyH_take (i := 20) (v := undef) rfl (by kernel_rfl) (by kernel_rfl) (by kernel_rfl) (fun _ _ _ h => h) (Or.inr ⟨by kernel_rfl, rfl⟩) (by assumption) ?_
        (try simp only [Act.put, List.getElem_toArray, List.getElem_cons_zero, List.getElem_cons_succ, List.setIfInBounds_toArray, List.set_cons_zero, List.set_cons_succ])
        refine wpAnyH_take (i := 21) (v := ?_) rfl (by kernel_rfl) (by kernel_rfl) (by kernel_rfl) (fun _ _ _ h => h) (Or.inl ⟨by kernel_rfl, ?_⟩) (by assumption) ?_
        rotate_left
        · (intro w hSw; (try dsimp only at hSw); go_simp; (try with_reducible rfl))
        (try simp only [Act.put, List.getElem_toArray, List.getElem_cons_zero, List.getElem_cons_succ, List.setIfInBounds_toArray, List.set_cons_zero, List.set_cons_succ])
        refine wpAnyH_take (i := 22) (v := ?_) rfl (by kernel_rfl) (by kernel_rfl) (by kernel_rfl) (fun _ _ _ h => h) (Or.inl ⟨by kernel_rfl, ?_⟩) (by assumption) ?_
        rotate_left
        · (intro w hSw; (try dsimp only at hSw); go_simp; (try with_reducible rfl))
        (try simp only [Act.put, List.getElem_toArray, List.getElem_cons_zero, List.getElem_cons_succ, List.setIfInBounds_toArray, List.set_cons_zero, List.set_cons_succ])
        refine wpAnyH_done (by kernel_rfl) ?_ _
        have bb1 := BBF.out _ HC1.out
        go_wp2
        go_ret
        exact ⟨ret_bool HV.out.symm, bb1⟩
    · have ok' : okD ((false, l), z) = false := by simpa using ok
      have HO := Lib.hid ok'
      have HV := Lib.hid (show taxB ((false, l), z) = false from taxB_bad ok')
      clear ok ok'
      have HOK := Lib.hid (show ∀ W, Below w.heap.size w W → Calls Tryz.prog 69 #[.agg #[.bool false, .slice Ad l.length cd, .int .i64 z]] W (Postb false W) from fun W hb => by have h := specDecOk_any _ ((false, l), z) W hl (ODd.out _ hb); rw [HO.out] at h; exact h)
      go_enter Tryz.func30, Tryz.ntmps30
      have kd_c0 := kd.here.cell 0 _ rfl
      have kd_c1 := kd.here.cell 1 _ rfl
      have kd_c2 := kd.here.cell 2 _ rfl
      go_wp2_with fail
      rw [← HW0.out]
      have HC0 := Lib.hid (show Chg [] W0 W0.drew from (Chg.refl _ _).drew1)
      have KL := Lib.hid (show ∀ W, Chg [] W0 W → W.cell? ⟨w.heap.size, 0, none⟩ = some (.bool false) ∧ W.cell? ⟨w.heap.size, 1, none⟩ = some (.slice Ad l.length cd) ∧ W.cell? ⟨w.heap.size, 2, none⟩ = some (.int .i64 z) ∧ Hid (Chg [] W0 W) from fun W hc => ⟨(kd.chg hc (fun i hi hm => by simp at hm)).here.cell 0 _ rfl, (kd.chg hc (fun i hi hm => by simp at hm)).here.cell 1 _ rfl, (kd.chg hc (fun i hi hm => by simp at hm)).here.cell 2 _ rfl, Lib.hid hc⟩)
      have BBF := Lib.hid (show ∀ W, Chg [] W0 W → Below w.heap.size w W from fun W hc => below_chg bb0 hc bb0.size (fun i hi => by simp at hi))
      clear kd_c0 kd_c1 kd_c2
      refine wp_region_held_drew (S := fun W => W.cell? ⟨w.heap.size, 0, none⟩ = some (.bool false) ∧ W.cell? ⟨w.heap.size, 1, none⟩ = some (.slice Ad l.length cd) ∧ W.cell? ⟨w.heap.size, 2, none⟩ = some (.int .i64 z) ∧ Hid (Chg [] W0 W)) (by kernel_rfl) ?_ (fun hHeld => ?_)
      · ((refine KL.out _ ?_; (first | exact HC0.out | fail)))
      refine wpAnyH_take (i := 0) (v := ?_) rfl (by kernel_rfl) (by kernel_rfl) (by kernel_rfl) (fun _ _ _ h => h) (Or.inl ⟨by kernel_rfl, ?_⟩) (by assumption) ?_
      rotate_left
      · (intro w hSw; (try dsimp only at hSw); go_simp; (try with_reducible rfl))
      (try simp only [Act.put, List.getElem_toArray, List.getElem_cons_zero, List.setIfInBounds_toArray, List.set_cons_zero, List.set_cons_succ])
      refine wpAnyH_ready (rs := [1]) (by kernel_rfl) (by simp) ?_
      refine AllReadyH.cons rfl (fun K hK => ?_) AllReadyH.nil
      go_simp
      (go_at_call 69; (have hBB := (‹_ ∧ _ ∧ _ ∧ Hid (Chg [] W0 _)›).2.2.2); (with_reducible refine (HOK.out _ (BBF.out _ hBB.out)).mono ?_); rintro e w1 ⟨rfl, b1⟩; have HC1 := Lib.hid (hBB.out.trans (Chg.of_below b1)); clear hBB)
      refine hK.out _ _ ?_ (fun hHeld => ?_)
      · ((refine KL.out _ ?_; (first | exact HC1.out | exact HC0.out | fail)))
      clear hK K
      (try simp only [Act.put, List.getElem_toArray, List.getElem_cons_zero, List.getElem_cons_succ, List.setIfInBounds_toArray, List.set_cons_zero, List.set_cons_succ])
      refine wpAnyH_take (i := 2) (v := ?_) rfl (by kernel_rfl) (by kernel_rfl) (by kernel_rfl) (fun _ _ _ h => h) (Or.inl ⟨by kernel_rfl, ?_⟩) (by assumption) ?_
      rotate_left
      · (intro w hSw; (try dsimp only at hSw); go_simp; (try with_reducible rfl))
      (try simp only [Act.put, List.getElem_toArray, List.getElem_cons_zero, List.getElem_cons_succ, List.setIfInBounds_toArray, List.set_cons_zero, List.set_cons_succ])
      refine wpAnyH_take (i := 3) (v := undef) rfl (by kernel_rfl) (by kernel_rfl) (by kernel_rfl) (fun _ _ _ h => h) (Or.inr ⟨by kernel_rfl, rfl⟩) (by assumption) ?_
      (try simp only [Act.put, List.getElem_toArray, List.getElem_cons_zero, List.getElem_cons_succ, List.setIfInBounds_toArray, List.set_cons_zero, List.set_cons_succ])
      refine wpAnyH_take (i := 4) (v := undef) rfl (by kernel_rfl) (by kernel_rfl) (by kernel_rfl) (fun _ _ _ h => h) (Or.inr ⟨by kernel_rfl, rfl⟩) (by assumption) ?_
      (try simp only [Act.put, List.getElem_toArray, List.getElem_cons_zero, List.getElem_cons_succ, List.setIfInBounds_toArray, List.set_cons_zero, List.set_cons_succ])
      refine wpAnyH_take (i := 5) (v := undef) rfl (by kernel_rfl) (by kernel_rfl) (by kernel_rfl) (fun _ _ _ h => h) (Or.inr ⟨by kernel_rfl, rfl⟩) (by assumption) ?_
      (try simp only [Act.put, List.getElem_toArray, List.getElem_cons_zero, List.getElem_cons_succ, List.setIfInBounds_toArray, List.set_cons_zero, List.set_cons_succ])
      refine wpAnyH_take (i := 6) (v := undef) rfl (by kernel_rfl) (by kernel_rfl) (by kernel_rfl) (fun _ _ _ h => h) (Or.inr ⟨by kernel_rfl, rfl⟩) (by assumption) ?_
      (try simp only [Act.put, List.getElem_toArray, List.getElem_cons_zero, List.getElem_cons_succ, List.setIfInBounds_toArray, List.set_cons_zero, List.set_cons_succ])
      refine wpAnyH_take (i := 7) (v := ?_) rfl (by kernel_rfl) (by kernel_rfl) (by kernel_rfl) (fun _ _ _ h => h) (Or.inl ⟨by kernel_rfl, ?_⟩) (by assumption) ?_
      rotate_left
      · (intro w hSw; (try dsimp only at hSw); go_simp; (try with_reducible rfl))
      (try simp only [Act.put, List.getElem_toArray, List.getElem_cons_zero, List.getElem_cons_succ, List.setIfInBounds_toArray, List.set_cons_zero, List.set_cons_succ])
      refine wpAnyH_take (i := 8) (v := ?_) rfl (by kernel_rfl) (by kernel_rfl) (by kernel_rfl) (fun _ _ _ h => h) (Or.inl ⟨by kernel_rfl, ?_⟩) (by assumption) ?_
      rotate_left
      · (intro w hSw; (try dsimp only at hSw); go_simp; (try with_reducible rfl))
      (try simp only [Act.put, List.getElem_toArray, List.getElem_cons_zero, List.getElem_cons_succ, List.setIfInBounds_toArray, List.set_cons_zero, List.set_cons_succ])
      refine wpAnyH_take (i := 9) (v := undef) rfl (by kernel_rfl) (by kernel_rfl) (by kernel_rfl) (fun _ _ _ h => h) (Or.inr ⟨by kernel_rfl, rfl⟩) (by assumption) ?_
      (try simp only [Act.put, List.getElem_toArray, List.getElem_cons_zero, List.getElem_cons_succ, List.setIfInBounds_toArray, List.set_cons_zero, List.set_cons_succ])
      refine wpAnyH_take (i := 10) (v := undef) rfl (by kernel_rfl) (by kernel_rfl) (by kernel_rfl) (fun _ _ _ h => h) (Or.inr ⟨by kernel_rfl, rfl⟩) (by assumption) ?_
      (try simp only [Act.put, List.getElem_toArray, List.getElem_cons_zero, List.getElem_cons_succ, List.setIfInBounds_toArray, List.set_cons_zero, List.set_cons_succ])
      refine wpAnyH_take (i := 11) (v := undef) rfl (by kernel_rfl) (by kernel_rfl) (by kernel_rfl) (fun _ _ _ h => h) (Or.inr ⟨by kernel_rfl, rfl⟩) (by assumption) ?_
      (try simp only [Act.put, List.getElem_toArray, List.getElem_cons_zero, List.getElem_cons_succ, List.setIfInBounds_toArray, List.set_cons_zero, List.set_cons_succ])
      refine wpAnyH_take (i := 12) (v := undef) rfl (by kernel_rfl) (by kernel_rfl) (by kernel_rfl) (fun _ _ _ h => h) (Or.inr ⟨by kernel_rfl, rfl⟩) (by assumption) ?_
      (try simp only [Act.put, List.getElem_toArray, List.getElem_cons_zero, List.getElem_cons_succ, List.setIfInBounds_toArray, List.set_cons_zero, List.set_cons_succ])
      refine wpAnyH_take (i := 13) (v := undef) rfl (by kernel_rfl) (by kernel_rfl) (by kernel_rfl) (fun _ _ _ h => h) (Or.inr ⟨by kernel_rfl, rfl⟩) (by assumption) ?_
      (try simp only [Act.put, List.getElem_toArray, List.getElem_cons_zero, List.getElem_cons_succ, List.setIfInBounds_toArray, List.set_cons_zero, List.set_cons_succ])
      refine wpAnyH_take (i := 14) (v := ?_) rfl (by kernel_rfl) (by kernel_rfl) (by kernel_rfl) (fun _ _ _ h => h) (Or.inl ⟨by kernel_rfl, ?_⟩) (by assumption) ?_
      rotate_left
      · (intro w hSw; (try dsimp only at hSw); go_simp; (try with_reducible rfl))
      (try simp only [Act.put, List.getElem_toArray, List.getElem_cons_zero, List.getElem_cons_succ, List.setIfInBounds_toArray, List.set_cons_zero, List.set_cons_succ])
      refine wpAnyH_take (i := 15) (v := ?_) rfl (by kernel_rfl) (by kernel_rfl) (by kernel_rfl) (fun _ _ _ h => h) (Or.inl ⟨by kernel_rfl, ?_⟩) (by assumption) ?_
      rotate_left
      · (intro w hSw; (try dsimp only at hSw); go_simp; (try with_reducible rfl))
      (try simp only [Act.put, List.getElem_toArray, List.getElem_cons_zero, List.getElem_cons_succ, List.setIfInBounds_toArray, List.set_cons_zero, List.set_cons_succ])
      refine wpAnyH_take (i := 16) (v := undef) rfl (by kernel_rfl) (by kernel_rfl) (by kernel_rfl) (fun _ _ _ h => h) (Or.inr ⟨by kernel_rfl, rfl⟩) (by assumption) ?_
      (try simp only [Act.put, List.getElem_toArray, List.getElem_cons_zero, List.getElem_cons_succ, List.setIfInBounds_toArray, List.set_cons_zero, List.set_cons_succ])
      refine wpAnyH_take (i := 17) (v := undef) rfl (by kernel_rfl) (by kernel_rfl) (by kernel_rfl) (fun _ _ _ h => h) (Or.inr ⟨by kernel_rfl, rfl⟩) (by assumption) ?_
      (try simp only [Act.put, List.getElem_toArray, List.getElem_cons_zero, List.getElem_cons_succ, List.setIfInBounds_toArray, List.set_cons_zero, List.set_cons_succ])
      refine wpAnyH_take (i := 18) (v := undef) rfl (by kernel_rfl) (by kernel_rfl) (by kernel_rfl) (fun _ _ _ h => h) (Or.inr ⟨by kernel_rfl, rfl⟩) (by assumption) ?_
      (try simp only [Act.put, List.getElem_toArray, List.getElem_cons_zero, List.getElem_cons_succ, List.setIfInBounds_toArray, List.set_cons_zero, List.set_cons_succ])
      refine wpAnyH_take (i := 19) (v := undef) rfl (by kernel_rfl) (by kernel_rfl) (by kernel_rfl) (fun _ _ _ h => h) (Or.inr ⟨by kernel_rfl, rfl⟩) (by assumption) ?_
      (try simp only [Act.put, List.getElem_toArray, List.getElem_cons_zero, List.getElem_cons_succ, List.setIfInBounds_toArray, List.set_cons_zero, List.set_cons_succ])
      refine wpAnyH_take (i := 20) (v := undef) rfl (by kernel_rfl) (by kernel_rfl) (by kernel_rfl) (fun _ _ _ h => h) (Or.inr ⟨by kernel_rfl, rfl⟩) (by assumption) ?_
      (try simp only [Act.put, List.getElem_toArray, List.getElem_cons_zero, List.getElem_cons_succ, List.setIfInBounds_toArray, List.set_cons_zero, List.set_cons_succ])
      refine wpAnyH_take (i := 21) (v := ?_) rfl (by kernel_rfl) (by kernel_rfl) (by kernel_rfl) (fun _ _ _ h => h) (Or.inl ⟨by kernel_rfl, ?_⟩) (by assumption) ?_
      rotate_left
      · (intro w hSw; (try dsimp only at hSw); go_simp; (try with_reducible rfl))
      (try simp only [Act.put, List.getElem_toArray, List.getElem_cons_zero, List.getElem_cons_succ, List.setIfInBounds_toArray, List.set_cons_zero, List.set_cons_succ])
      refine wpAnyH_take (i := 22) (v := ?_) rfl (by kernel_rfl) (by kernel_rfl) (by kernel_rfl) (fun _ _ _ h => h) (Or.inl ⟨by kernel_rfl, ?_⟩) (by assumption) ?_
      rotate_left
      · (intro w hSw; (try dsimp only at hSw); go_simp; (try with_reducible rfl))
      (try simp only [Act.put, List.getElem_toArray, List.getElem_cons_zero, List.getElem_cons_succ, List.setIfInBounds_toArray, List.set_cons_zero, List.set_cons_succ])
      refine wpAnyH_done (by kernel_rfl) ?_ _
      have bb1 := BBF.out _ HC1.out
      go_wp2
      go_ret
      exact ⟨ret_bool HV.out.symm, bb1⟩
  · have Hd := Lib.hid hd
    have ODd := Lib.hid (show ∀ W, Below w.heap.size w W → OwnD (.agg #[.bool true, .slice Ad l.length cd, .int .i64 z]) ((true, l), z) W from fun W hb => OwnD.below Hd.out hb)
    clear hd
    have bb0 : Below w.heap.size w (w.alloc (.cells #[.bool true, .slice Ad l.length cd, .int .i64 z] 40)) := below_al (Below.refl _ _) _
    have kd := (box_new w #[.bool true, .slice Ad l.length cd, .int .i64 z] 40)
    obtain ⟨W0, hW0⟩ : ∃ W0, W0 = (w.alloc (.cells #[.bool true, .slice Ad l.length cd, .int .i64 z] 40)) := ⟨_, rfl⟩
    rw [← hW0] at bb0 kd 
    have HW0 := Lib.hid hW0
    clear hW0
    by_cases ok : okD ((true, l), z) = true
    · have HO := Lib.hid ok
      have HOK := Lib.hid (show ∀ W, Below w.heap.size w W → Calls Tryz.prog 69 #[.agg #[.bool true, .slice Ad l.length cd, .int .i64 z]] W (Postb true W) from fun W hb => by have h := specDecOk_any _ ((true, l), z) W hl (ODd.out _ hb); rw [HO.out] at h; exact h)
      have HV := Lib.hid (show taxB ((true, l), z) = false from taxB_neg rfl)
      clear ok HO
      go_enter Tryz.func30, Tryz.ntmps30
      have kd_c0 := kd.here.cell 0 _ rfl
      have kd_c1 := kd.here.cell 1 _ rfl
      have kd_c2 := kd.here.cell 2 _ rfl
      go_wp2_with fail
      rw [← HW0.out]
      have HC0 := Lib.hid (show Chg [] W0 W0.drew from (Chg.refl _ _).drew1)
      have KL := Lib.hid (show ∀ W, Chg [] W0 W → W.cell? ⟨w.heap.size, 0, none⟩ = some (.bool true) ∧ W.cell? ⟨w.heap.size, 1, none⟩ = some (.slice Ad l.length cd) ∧ W.cell? ⟨w.heap.size, 2, none⟩ = some (.int .i64 z) ∧ Hid (Chg [] W0 W) from fun W hc => ⟨(kd.chg hc (fun i hi hm => by simp at hm)).here.cell 0 _ rfl, (kd.chg hc (fun i hi hm => by simp at hm)).here.cell 1 _ rfl, (kd.chg hc (fun i hi hm => by simp at hm)).here.cell 2 _ rfl, Lib.hid hc⟩)
      have BBF := Lib.hid (show ∀ W, Chg [] W0 W → Below w.heap.size w W from fun W hc => below_chg bb0 hc bb0.size (fun i hi => by simp at hi))
      clear kd_c0 kd_c1 kd_c2
      refine wp_region_held_drew (S := fun W => W.cell? ⟨w.heap.size, 0, none⟩ = some (.bool true) ∧ W.cell? ⟨w.heap.size, 1, none⟩ = some (.slice Ad l.length cd) ∧ W.cell? ⟨w.heap.size, 2, none⟩ = some (.int .i64 z) ∧ Hid (Chg [] W0 W)) (by kernel_rfl) ?_ (fun hHeld => ?_)
      · ((refine KL.out _ ?_; (first | exact HC0.out | fail)))
      refine wpAnyH_take (i := 0) (v := ?_) rfl (by kernel_rfl) (by kernel_rfl) (by kernel_rfl) (fun _ _ _ h => h) (Or.inl ⟨by kernel_rfl, ?_⟩) (by assumption) ?_
      rotate_left
      · (intro w hSw; (try dsimp only at hSw); go_simp; (try with_reducible rfl))
      (try simp only [Act.put, List.getElem_toArray, List.getElem_cons_zero, List.setIfInBounds_toArray, List.set_cons_zero, List.set_cons_succ])
      refine wpAnyH_ready (rs := [1]) (by kernel_rfl) (by simp) ?_
      refine AllReadyH.cons rfl (fun K hK => ?_) AllReadyH.nil
      go_simp
      (go_at_call 69; (have hBB := (‹_ ∧ _ ∧ _ ∧ Hid (Chg [] W0 _)›).2.2.2); (with_reducible refine (HOK.out _ (BBF.out _ hBB.out)).mono ?_); rintro e w1 ⟨rfl, b1⟩; have HC1 := Lib.hid (hBB.out.trans (Chg.of_below b1)); clear hBB)
      refine hK.out _ _ ?_ (fun hHeld => ?_)
      · ((refine KL.out _ ?_; (first | exact HC1.out | exact HC0.out | fail)))
      clear hK K
      (try simp only [Act.put, List.getElem_toArray, List.getElem_cons_zero, List.getElem_cons_succ, List.setIfInBounds_toArray, List.set_cons_zero, List.set_cons_succ])
      refine wpAnyH_take (i := 2) (v := ?_) rfl (by kernel_rfl) (by kernel_rfl) (by kernel_rfl) (fun _ _ _ h => h) (Or.inl ⟨by kernel_rfl, ?_⟩) (by assumption) ?_
      rotate_left
      · (intro w hSw; (try dsimp only at hSw); go_simp; (try with_reducible rfl))
      (try simp only [Act.put, List.getElem_toArray, List.getElem_cons_zero, List.getElem_cons_succ, List.setIfInBounds_toArray, List.set_cons_zero, List.set_cons_succ])
      refine wpAnyH_take (i := 3) (v := ?_) rfl (by kernel_rfl) (by kernel_rfl) (by kernel_rfl) (fun _ _ _ h => h) (Or.inl ⟨by kernel_rfl, ?_⟩) (by assumption) ?_
      rotate_left
      · (intro w hSw; (try dsimp only at hSw); go_simp; (try with_reducible rfl))
      (try simp only [Act.put, List.getElem_toArray, List.getElem_cons_zero, List.getElem_cons_succ, List.setIfInBounds_toArray, List.set_cons_zero, List.set_cons_succ])
      refine wpAnyH_take (i := 4) (v := ?_) rfl (by kernel_rfl) (by kernel_rfl) (by kernel_rfl) (fun _ _ _ h => h) (Or.inl ⟨by kernel_rfl, ?_⟩) (by assumption) ?_
      rotate_left
      · (intro w hSw; (try dsimp only at hSw); go_simp; (try with_reducible rfl))
      (try simp only [Act.put, List.getElem_toArray, List.getElem_cons_zero, List.getElem_cons_succ, List.setIfInBounds_toArray, List.set_cons_zero, List.set_cons_succ])
      refine wpAnyH_take (i := 5) (v := ?_) rfl (by kernel_rfl) (by kernel_rfl) (by kernel_rfl) (fun _ _ _ h => h) (Or.inl ⟨by kernel_rfl, ?_⟩) (by assumption) ?_
      rotate_left
      · (intro w hSw; (try dsimp only at hSw); go_simp; (try with_reducible rfl))
      (try simp only [Act.put, List.getElem_toArray, List.getElem_cons_zero, List.getElem_cons_succ, List.setIfInBounds_toArray, List.set_cons_zero, List.set_cons_succ])
      refine wpAnyH_take (i := 6) (v := ?_) rfl (by kernel_rfl) (by kernel_rfl) (by kernel_rfl) (fun _ _ _ h => h) (Or.inl ⟨by kernel_rfl, ?_⟩) (by assumption) ?_
      rotate_left
      · (intro w hSw; (try dsimp only at hSw); go_simp; (try with_reducible rfl))
      (try simp only [Act.put, List.getElem_toArray, List.getElem_cons_zero, List.getElem_cons_succ, List.setIfInBounds_toArray, List.set_cons_zero, List.set_cons_succ])
      refine wpAnyH_take (i := 7) (v := ?_) rfl (by kernel_rfl) (by kernel_rfl) (by kernel_rfl) (fun _ _ _ h => h) (Or.inl ⟨by kernel_rfl, ?_⟩) (by assumption) ?_
      rotate_left
      · (intro w hSw; (try dsimp only at hSw); go_simp; (try with_reducible rfl))
      (try simp only [Act.put, List.getElem_toArray, List.getElem_cons_zero, List.getElem_cons_succ, List.setIfInBounds_toArray, List.set_cons_zero, List.set_cons_succ])
      refine wpAnyH_take (i := 8) (v := ?_) rfl (by kernel_rfl) (by kernel_rfl) (by kernel_rfl) (fun _ _ _ h => h) (Or.inl ⟨by kernel_rfl, ?_⟩) (by assumption) ?_
      rotate_left
      · (intro w hSw; (try dsimp only at hSw); go_simp; (try with_reducible rfl))
      (try simp only [Act.put, List.getElem_toArray, List.getElem_cons_zero, List.getElem_cons_succ, List.setIfInBounds_toArray, List.set_cons_zero, List.set_cons_succ])
      refine wpAnyH_take (i := 9) (v := undef) rfl (by kernel_rfl) (by kernel_rfl) (by kernel_rfl) (fun _ _ _ h => h) (Or.inr ⟨by kernel_rfl, rfl⟩) (by assumption) ?_
      (try simp only [Act.put, List.getElem_toArray, List.getElem_cons_zero, List.getElem_cons_succ, List.setIfInBounds_toArray, List.set_cons_zero, List.set_cons_succ])
      refine wpAnyH_take (i := 10) (v := undef) rfl (by kernel_rfl) (by kernel_rfl) (by kernel_rfl) (fun _ _ _ h => h) (Or.inr ⟨by kernel_rfl, rfl⟩) (by assumption) ?_
      (try simp only [Act.put, List.getElem_toArray, List.getElem_cons_zero, List.getElem_cons_succ, List.setIfInBounds_toArray, List.set_cons_zero, List.set_cons_succ])
      refine wpAnyH_take (i := 11) (v := undef) rfl (by kernel_rfl) (by kernel_rfl) (by kernel_rfl) (fun _ _ _ h => h) (Or.inr ⟨by kernel_rfl, rfl⟩) (by assumption) ?_
      (try simp only [Act.put, List.getElem_toArray, List.getElem_cons_zero, List.getElem_cons_succ, List.setIfInBounds_toArray, List.set_cons_zero, List.set_cons_succ])
      refine wpAnyH_take (i := 12) (v := undef) rfl (by kernel_rfl) (by kernel_rfl) (by kernel_rfl) (fun _ _ _ h => h) (Or.inr ⟨by kernel_rfl, rfl⟩) (by assumption) ?_
      (try simp only [Act.put, List.getElem_toArray, List.getElem_cons_zero, List.getElem_cons_succ, List.setIfInBounds_toArray, List.set_cons_zero, List.set_cons_succ])
      refine wpAnyH_take (i := 13) (v := undef) rfl (by kernel_rfl) (by kernel_rfl) (by kernel_rfl) (fun _ _ _ h => h) (Or.inr ⟨by kernel_rfl, rfl⟩) (by assumption) ?_
      (try simp only [Act.put, List.getElem_toArray, List.getElem_cons_zero, List.getElem_cons_succ, List.setIfInBounds_toArray, List.set_cons_zero, List.set_cons_succ])
      refine wpAnyH_take (i := 14) (v := ?_) rfl (by kernel_rfl) (by kernel_rfl) (by kernel_rfl) (fun _ _ _ h => h) (Or.inl ⟨by kernel_rfl, ?_⟩) (by assumption) ?_
      rotate_left
      · (intro w hSw; (try dsimp only at hSw); go_simp; (try with_reducible rfl))
      (try simp only [Act.put, List.getElem_toArray, List.getElem_cons_zero, List.getElem_cons_succ, List.setIfInBounds_toArray, List.set_cons_zero, List.set_cons_succ])
      refine wpAnyH_take (i := 15) (v := ?_) rfl (by kernel_rfl) (by kernel_rfl) (by kernel_rfl) (fun _ _ _ h => h) (Or.inl ⟨by kernel_rfl, ?_⟩) (by assumption) ?_
      rotate_left
      · (intro w hSw; (try dsimp only at hSw); go_simp; (try with_reducible rfl))
      (try simp only [Act.put, List.getElem_toArray, List.getElem_cons_zero, List.getElem_cons_succ, List.setIfInBounds_toArray, List.set_cons_zero, List.set_cons_succ])
      refine wpAnyH_take (i := 16) (v := undef) rfl (by kernel_rfl) (by kernel_rfl) (by kernel_rfl) (fun _ _ _ h => h) (Or.inr ⟨by kernel_rfl, rfl⟩) (by assumption) ?_
      (try simp only [Act.put, List.getElem_toArray, List.getElem_cons_zero, List.getElem_cons_succ, List.setIfInBounds_toArray, List.set_cons_zero, List.set_cons_succ])
      refine wpAnyH_take (i := 17) (v := undef) rfl (by kernel_rfl) (by kernel_rfl) (by kernel_rfl) (fun _ _ _ h => h) (Or.inr ⟨by kernel_rfl, rfl⟩) (by assumption) ?_
      (try simp only [Act.put, List.getElem_toArray, List.getElem_cons_zero, List.getElem_cons_succ, List.setIfInBounds_toArray, List.set_cons_zero, List.set_cons_succ])
      refine wpAnyH_take (i := 18) (v := undef) rfl (by kernel_rfl) (by kernel_rfl) (by kernel_rfl) (fun _ _ _ h => h) (Or.inr ⟨by kernel_rfl, rfl⟩) (by assumption) ?_
      (try simp only [Act.put, List.getElem_toArray, List.getElem_cons_zero, List.getElem_cons_succ, List.setIfInBounds_toArray, List.set_cons_zero, List.set_cons_succ])
      refine wpAnyH_take (i := 19) (v := undef) rfl (by kernel_rfl) (by kernel_rfl) (by kernel_rfl) (fun _ _ _ h => h) (Or.inr ⟨by kernel_rfl, rfl⟩) (by assumption) ?_
      (try simp only [Act.put, List.getElem_toArray, List.getElem_cons_zero, List.getElem_cons_succ, List.setIfInBounds_toArray, List.set_cons_zero, List.set_cons_succ])
      refine wpAnyH_take (i := 20) (v := undef) rfl (by kernel_rfl) (by kernel_rfl) (by kernel_rfl) (fun _ _ _ h => h) (Or.inr ⟨by kernel_rfl, rfl⟩) (by assumption) ?_
      (try simp only [Act.put, List.getElem_toArray, List.getElem_cons_zero, List.getElem_cons_succ, List.setIfInBounds_toArray, List.set_cons_zero, List.set_cons_succ])
      refine wpAnyH_take (i := 21) (v := ?_) rfl (by kernel_rfl) (by kernel_rfl) (by kernel_rfl) (fun _ _ _ h => h) (Or.inl ⟨by kernel_rfl, ?_⟩) (by assumption) ?_
      rotate_left
      · (intro w hSw; (try dsimp only at hSw); go_simp; (try with_reducible rfl))
      (try simp only [Act.put, List.getElem_toArray, List.getElem_cons_zero, List.getElem_cons_succ, List.setIfInBounds_toArray, List.set_cons_zero, List.set_cons_succ])
      refine wpAnyH_take (i := 22) (v := ?_) rfl (by kernel_rfl) (by kernel_rfl) (by kernel_rfl) (fun _ _ _ h => h) (Or.inl ⟨by kernel_rfl, ?_⟩) (by assumption) ?_
      rotate_left
      · (intro w hSw; (try dsimp only at hSw); go_simp; (try with_reducible rfl))
      (try simp only [Act.put, List.getElem_toArray, List.getElem_cons_zero, List.getElem_cons_succ, List.setIfInBounds_toArray, List.set_cons_zero, List.set_cons_succ])
      refine wpAnyH_done (by kernel_rfl) ?_ _
      have bb1 := BBF.out _ HC1.out
      go_wp2
      go_ret
      exact ⟨ret_bool HV.out.symm, bb1⟩
    · have ok' : okD ((true, l), z) = false := by simpa using ok
      have HO := Lib.hid ok'
      have HV := Lib.hid (show taxB ((true, l), z) = false from taxB_bad ok')
      clear ok ok'
      have HOK := Lib.hid (show ∀ W, Below w.heap.size w W → Calls Tryz.prog 69 #[.agg #[.bool true, .slice Ad l.length cd, .int .i64 z]] W (Postb false W) from fun W hb => by have h := specDecOk_any _ ((true, l), z) W hl (ODd.out _ hb); rw [HO.out] at h; exact h)
      go_enter Tryz.func30, Tryz.ntmps30
      have kd_c0 := kd.here.cell 0 _ rfl
      have kd_c1 := kd.here.cell 1 _ rfl
      have kd_c2 := kd.here.cell 2 _ rfl
      go_wp2_with fail
      rw [← HW0.out]
      have HC0 := Lib.hid (show Chg [] W0 W0.drew from (Chg.refl _ _).drew1)
      have KL := Lib.hid (show ∀ W, Chg [] W0 W → W.cell? ⟨w.heap.size, 0, none⟩ = some (.bool true) ∧ W.cell? ⟨w.heap.size, 1, none⟩ = some (.slice Ad l.length cd) ∧ W.cell? ⟨w.heap.size, 2, none⟩ = some (.int .i64 z) ∧ Hid (Chg [] W0 W) from fun W hc => ⟨(kd.chg hc (fun i hi hm => by simp at hm)).here.cell 0 _ rfl, (kd.chg hc (fun i hi hm => by simp at hm)).here.cell 1 _ rfl, (kd.chg hc (fun i hi hm => by simp at hm)).here.cell 2 _ rfl, Lib.hid hc⟩)
      have BBF := Lib.hid (show ∀ W, Chg [] W0 W → Below w.heap.size w W from fun W hc => below_chg bb0 hc bb0.size (fun i hi => by simp at hi))
      clear kd_c0 kd_c1 kd_c2
      refine wp_region_held_drew (S := fun W => W.cell? ⟨w.heap.size, 0, none⟩ = some (.bool true) ∧ W.cell? ⟨w.heap.size, 1, none⟩ = some (.slice Ad l.length cd) ∧ W.cell? ⟨w.heap.size, 2, none⟩ = some (.int .i64 z) ∧ Hid (Chg [] W0 W)) (by kernel_rfl) ?_ (fun hHeld => ?_)
      · ((refine KL.out _ ?_; (first | exact HC0.out | fail)))
      refine wpAnyH_take (i := 0) (v := ?_) rfl (by kernel_rfl) (by kernel_rfl) (by kernel_rfl) (fun _ _ _ h => h) (Or.inl ⟨by kernel_rfl, ?_⟩) (by assumption) ?_
      rotate_left
      · (intro w hSw; (try dsimp only at hSw); go_simp; (try with_reducible rfl))
      (try simp only [Act.put, List.getElem_toArray, List.getElem_cons_zero, List.setIfInBounds_toArray, List.set_cons_zero, List.set_cons_succ])
      refine wpAnyH_ready (rs := [1]) (by kernel_rfl) (by simp) ?_
      refine AllReadyH.cons rfl (fun K hK => ?_) AllReadyH.nil
      go_simp
      (go_at_call 69; (have hBB := (‹_ ∧ _ ∧ _ ∧ Hid (Chg [] W0 _)›).2.2.2); (with_reducible refine (HOK.out _ (BBF.out _ hBB.out)).mono ?_); rintro e w1 ⟨rfl, b1⟩; have HC1 := Lib.hid (hBB.out.trans (Chg.of_below b1)); clear hBB)
      refine hK.out _ _ ?_ (fun hHeld => ?_)
      · ((refine KL.out _ ?_; (first | exact HC1.out | exact HC0.out | fail)))
      clear hK K
      (try simp only [Act.put, List.getElem_toArray, List.getElem_cons_zero, List.getElem_cons_succ, List.setIfInBounds_toArray, List.set_cons_zero, List.set_cons_succ])
      refine wpAnyH_take (i := 2) (v := ?_) rfl (by kernel_rfl) (by kernel_rfl) (by kernel_rfl) (fun _ _ _ h => h) (Or.inl ⟨by kernel_rfl, ?_⟩) (by assumption) ?_
      rotate_left
      · (intro w hSw; (try dsimp only at hSw); go_simp; (try with_reducible rfl))
      (try simp only [Act.put, List.getElem_toArray, List.getElem_cons_zero, List.getElem_cons_succ, List.setIfInBounds_toArray, List.set_cons_zero, List.set_cons_succ])
      refine wpAnyH_take (i := 3) (v := undef) rfl (by kernel_rfl) (by kernel_rfl) (by kernel_rfl) (fun _ _ _ h => h) (Or.inr ⟨by kernel_rfl, rfl⟩) (by assumption) ?_
      (try simp only [Act.put, List.getElem_toArray, List.getElem_cons_zero, List.getElem_cons_succ, List.setIfInBounds_toArray, List.set_cons_zero, List.set_cons_succ])
      refine wpAnyH_take (i := 4) (v := undef) rfl (by kernel_rfl) (by kernel_rfl) (by kernel_rfl) (fun _ _ _ h => h) (Or.inr ⟨by kernel_rfl, rfl⟩) (by assumption) ?_
      (try simp only [Act.put, List.getElem_toArray, List.getElem_cons_zero, List.getElem_cons_succ, List.setIfInBounds_toArray, List.set_cons_zero, List.set_cons_succ])
      refine wpAnyH_take (i := 5) (v := undef) rfl (by kernel_rfl) (by kernel_rfl) (by kernel_rfl) (fun _ _ _ h => h) (Or.inr ⟨by kernel_rfl, rfl⟩) (by assumption) ?_
      (try simp only [Act.put, List.getElem_toArray, List.getElem_cons_zero, List.getElem_cons_succ, List.setIfInBounds_toArray, List.set_cons_zero, List.set_cons_succ])
      refine wpAnyH_take (i := 6) (v := undef) rfl (by kernel_rfl) (by kernel_rfl) (by kernel_rfl) (fun _ _ _ h => h) (Or.inr ⟨by kernel_rfl, rfl⟩) (by assumption) ?_
      (try simp only [Act.put, List.getElem_toArray, List.getElem_cons_zero, List.getElem_cons_succ, List.setIfInBounds_toArray, List.set_cons_zero, List.set_cons_succ])
      refine wpAnyH_take (i := 7) (v := ?_) rfl (by kernel_rfl) (by kernel_rfl) (by kernel_rfl) (fun _ _ _ h => h) (Or.inl ⟨by kernel_rfl, ?_⟩) (by assumption) ?_
      rotate_left
      · (intro w hSw; (try dsimp only at hSw); go_simp; (try with_reducible rfl))
      (try simp only [Act.put, List.getElem_toArray, List.getElem_cons_zero, List.getElem_cons_succ, List.setIfInBounds_toArray, List.set_cons_zero, List.set_cons_succ])
      refine wpAnyH_take (i := 8) (v := ?_) rfl (by kernel_rfl) (by kernel_rfl) (by kernel_rfl) (fun _ _ _ h => h) (Or.inl ⟨by kernel_rfl, ?_⟩) (by assumption) ?_
      rotate_left
      · (intro w hSw; (try dsimp only at hSw); go_simp; (try with_reducible rfl))
      (try simp only [Act.put, List.getElem_toArray, List.getElem_cons_zero, List.getElem_cons_succ, List.setIfInBounds_toArray, List.set_cons_zero, List.set_cons_succ])
      refine wpAnyH_take (i := 9) (v := undef) rfl (by kernel_rfl) (by kernel_rfl) (by kernel_rfl) (fun _ _ _ h => h) (Or.inr ⟨by kernel_rfl, rfl⟩) (by assumption) ?_
      (try simp only [Act.put, List.getElem_toArray, List.getElem_cons_zero, List.getElem_cons_succ, List.setIfInBounds_toArray, List.set_cons_zero, List.set_cons_succ])
      refine wpAnyH_take (i := 10) (v := undef) rfl (by kernel_rfl) (by kernel_rfl) (by kernel_rfl) (fun _ _ _ h => h) (Or.inr ⟨by kernel_rfl, rfl⟩) (by assumption) ?_
      (try simp only [Act.put, List.getElem_toArray, List.getElem_cons_zero, List.getElem_cons_succ, List.setIfInBounds_toArray, List.set_cons_zero, List.set_cons_succ])
      refine wpAnyH_take (i := 11) (v := undef) rfl (by kernel_rfl) (by kernel_rfl) (by kernel_rfl) (fun _ _ _ h => h) (Or.inr ⟨by kernel_rfl, rfl⟩) (by assumption) ?_
      (try simp only [Act.put, List.getElem_toArray, List.getElem_cons_zero, List.getElem_cons_succ, List.setIfInBounds_toArray, List.set_cons_zero, List.set_cons_succ])
      refine wpAnyH_take (i := 12) (v := undef) rfl (by kernel_rfl) (by kernel_rfl) (by kernel_rfl) (fun _ _ _ h => h) (Or.inr ⟨by kernel_rfl, rfl⟩) (by assumption) ?_
      (try simp only [Act.put, List.getElem_toArray, List.getElem_cons_zero, List.getElem_cons_succ, List.setIfInBounds_toArray, List.set_cons_zero, List.set_cons_succ])
      refine wpAnyH_take (i := 13) (v := undef) rfl (by kernel_rfl) (by kernel_rfl) (by kernel_rfl) (fun _ _ _ h => h) (Or.inr ⟨by kernel_rfl, rfl⟩) (by assumption) ?_
      (try simp only [Act.put, List.getElem_toArray, List.getElem_cons_zero, List.getElem_cons_succ, List.setIfInBounds_toArray, List.set_cons_zero, List.set_cons_succ])
      refine wpAnyH_take (i := 14) (v := ?_) rfl (by kernel_rfl) (by kernel_rfl) (by kernel_rfl) (fun _ _ _ h => h) (Or.inl ⟨by kernel_rfl, ?_⟩) (by assumption) ?_
      rotate_left
      · (intro w hSw; (try dsimp only at hSw); go_simp; (try with_reducible rfl))
      (try simp only [Act.put, List.getElem_toArray, List.getElem_cons_zero, List.getElem_cons_succ, List.setIfInBounds_toArray, List.set_cons_zero, List.set_cons_succ])
      refine wpAnyH_take (i := 15) (v := ?_) rfl (by kernel_rfl) (by kernel_rfl) (by kernel_rfl) (fun _ _ _ h => h) (Or.inl ⟨by kernel_rfl, ?_⟩) (by assumption) ?_
      rotate_left
      · (intro w hSw; (try dsimp only at hSw); go_simp; (try with_reducible rfl))
      (try simp only [Act.put, List.getElem_toArray, List.getElem_cons_zero, List.getElem_cons_succ, List.setIfInBounds_toArray, List.set_cons_zero, List.set_cons_succ])
      refine wpAnyH_take (i := 16) (v := undef) rfl (by kernel_rfl) (by kernel_rfl) (by kernel_rfl) (fun _ _ _ h => h) (Or.inr ⟨by kernel_rfl, rfl⟩) (by assumption) ?_
      (try simp only [Act.put, List.getElem_toArray, List.getElem_cons_zero, List.getElem_cons_succ, List.setIfInBounds_toArray, List.set_cons_zero, List.set_cons_succ])
      refine wpAnyH_take (i := 17) (v := undef) rfl (by kernel_rfl) (by kernel_rfl) (by kernel_rfl) (fun _ _ _ h => h) (Or.inr ⟨by kernel_rfl, rfl⟩) (by assumption) ?_
      (try simp only [Act.put, List.getElem_toArray, List.getElem_cons_zero, List.getElem_cons_succ, List.setIfInBounds_toArray, List.set_cons_zero, List.set_cons_succ])
      refine wpAnyH_take (i := 18) (v := undef) rfl (by kernel_rfl) (by kernel_rfl) (by kernel_rfl) (fun _ _ _ h => h) (Or.inr ⟨by kernel_rfl, rfl⟩) (by assumption) ?_
      (try simp only [Act.put, List.getElem_toArray, List.getElem_cons_zero, List.getElem_cons_succ, List.setIfInBounds_toArray, List.set_cons_zero, List.set_cons_succ])
      refine wpAnyH_take (i := 19) (v := undef) rfl (by kernel_rfl) (by kernel_rfl) (by kernel_rfl) (fun _ _ _ h => h) (Or.inr ⟨by kernel_rfl, rfl⟩) (by assumption) ?_
      (try simp only [Act.put, List.getElem_toArray, List.getElem_cons_zero, List.getElem_cons_succ, List.setIfInBounds_toArray, List.set_cons_zero, List.set_cons_succ])
      refine wpAnyH_take (i := 20) (v := undef) rfl (by kernel_rfl) (by kernel_rfl) (by kernel_rfl) (fun _ _ _ h => h) (Or.inr ⟨by kernel_rfl, rfl⟩) (by assumption) ?_
      (try simp only [Act.put, List.getElem_toArray, List.getElem_cons_zero, List.getElem_cons_succ, List.setIfInBounds_toArray, List.set_cons_zero, List.set_cons_succ])
      refine wpAnyH_take (i := 21) (v := ?_) rfl (by kernel_rfl) (by kernel_rfl) (by kernel_rfl) (fun _ _ _ h => h) (Or.inl ⟨by kernel_rfl, ?_⟩) (by assumption) ?_
      rotate_left
      · (intro w hSw; (try dsimp only at hSw); go_simp; (try with_reducible rfl))
      (try simp only [Act.put, List.getElem_toArray, List.getElem_cons_zero, List.getElem_cons_succ, List.setIfInBounds_toArray, List.set_cons_zero, List.set_cons_succ])
      refine wpAnyH_take (i := 22) (v := ?_) rfl (by kernel_rfl) (by kernel_rfl) (by kernel_rfl) (fun _ _ _ h => h) (Or.inl ⟨by kernel_rfl, ?_⟩) (by assumption) ?_
      rotate_left
      · (intro w hSw; (try dsimp only at hSw); go_simp; (try with_reducible rfl))
      (try simp only [Act.put, List.getElem_toArray, List.getElem_cons_zero, List.getElem_cons_succ, List.setIfInBounds_toArray, List.set_cons_zero, List.set_cons_succ])
      refine wpAnyH_done (by kernel_rfl) ?_ _
      have bb1 := BBF.out _ HC1.out
      go_wp2
      go_ret
      exact ⟨ret_bool HV.out.symm, bb1⟩
end Go.Proofs.YtofehcpapdlcnaaGreatDoor

namespace Go.Proofs.YtofehcpapdlcnaaGreatDoor
open Go.RowKit

theorem digB_true {d : Int} (h : digB d = true) : 0 ≤ d ∧ d ≤ 999999999 := of_decide_eq_true h
theorem digB_false {d : Int} (h : digB d = false) : ¬ (0 ≤ d ∧ d ≤ 999999999) := of_decide_eq_false h

set_option maxHeartbeats 400000 in
set_option maxRecDepth 100000 in
theorem implNatOk_same (v : Value) (xs : List Int) (lo hi : Nat) (w : World) (hl : xs.length ≤ 9223372036854775807) (hr : Row w lo hi v (intsV xs)) :
    Calls Tryz.prog 154 #[v] w fun e w' => e = .returned (.bool (natOkB xs)) ∧ w = w' := by
  obtain ⟨A, c, rfl, hA⟩ := hr
  have HA := Lib.hid hA
  rw [intsV_length]
  clear hA
  by_cases h50 : xs.length ≤ 50
  · go_enter Tryz.func154, Tryz.ntmps154
    go_wp2
    go_loop [10] (fun i => ∃ k : Nat, k ≤ xs.length ∧ i = .int .i64 k ∧ Hid ((xs.take k).all digB = true)) (fun i => xs.length - (intOf i).toNat)
    case atStart => exact ⟨0, Nat.zero_le _, rfl, Lib.hid rfl⟩
    case round =>
      obtain ⟨k, hk, rfl, HD⟩ := hrel
      by_cases hlt : k < xs.length
      · obtain ⟨a, rfl, _, _, hca⟩ := HA.out k _ (intsV_at xs k hlt)
        by_cases hd : digB xs[k] = true
        · have HS := Lib.hid (all_succ xs k hlt HD.out hd)
          have hd2 := digB_true hd
          have hd3 := hd2.1
          have hd4 := hd2.2
          clear hd2 hd
          go_wp2
          go_round
          case rel => exact ⟨k + 1, by omega, by go_num, HS⟩
          case measure => simp [intOf]; omega
        · have hd' : digB xs[k] = false := by simpa using hd
          have HN := Lib.hid (not_all xs k hlt hd')
          have hd2 := digB_false hd'
          by_cases hneg : xs[k] < 0
          · go_wp2
            go_ret
            exact ⟨ret_bool HN.out.symm, rfl⟩
          · have hbig : 1000000000 ≤ xs[k] := by omega
            go_wp2
            go_ret
            exact ⟨ret_bool HN.out.symm, rfl⟩
      · have HF := Lib.hid (all_upto xs k HD.out hlt)
        by_cases h0 : xs.length = 0
        · have hz : ((xs.length : Int) == 0) = true := by simp [h0]
          obtain rfl : xs = [] := List.eq_nil_of_length_eq_zero h0
          clear h0
          go_wp2
          go_ret
          exact ⟨rfl, rfl⟩
        · have hz : ((xs.length : Int) == 0) = false := by rw [beq_eq_false_iff_ne]; omega
          have hlt2 : xs.length - 1 < xs.length := by omega
          obtain ⟨a, rfl, _, _, hca⟩ := HA.out (xs.length - 1) _ (intsV_at xs (xs.length - 1) hlt2)
          have HL := Lib.hid (ok_last xs HF.out h50 hlt2)
          clear h0
          go_wp2
          go_ret
          exact ⟨ret_bool HL.out, rfl⟩
  · have HN := Lib.hid (ok_long xs h50)
    go_enter Tryz.func154, Tryz.ntmps154
    go_wp2
    go_ret
    exact ⟨ret_bool HN.out.symm, rfl⟩
set_option maxHeartbeats 400000 in
set_option maxRecDepth 100000 in
theorem implNatOf_any (n : Int) (w : World) (h1 : n ≤ 9223372036854775807) :
    Calls Tryz.prog 209 #[.int .i64 n] w (NewInts (limbs n.toNat) w) := by
  obtain ⟨i0, hi, hz0, hz1, hz2⟩ := info_parts intInfo
  go_enter Tryz.func209, Tryz.ntmps209
  go_wp2
  go_loopw [0, 3] (fun a v wr => ∃ (m : Int) (out : List Int) (f : Nat), m ≤ 9223372036854775807 ∧ out.length + f ≤ 3 ∧ m < 1000000000 ^ f ∧ a = .int .i64 m ∧ Hid (out ++ limbs m.toNat = limbs n.toNat) ∧ wr.ownsRow w.heap.size 3 1 v out.length (intsV out) ∧ Below w.heap.size w wr) (fun a _ _ => (intOf a).toNat)
  case atStart => exact ⟨n, [], 3, h1, by simp, by omega, rfl, Lib.hid rfl, World.ownsRow_nil _ _ _ _, Below.refl _ _⟩
  case round =>
    obtain ⟨m, out, f, hm, hol, hmf, rfl, HE, hown, hb1⟩ := hrel
    by_cases h0 : 0 < m
    · obtain ⟨g, rfl⟩ : ∃ g, f = g + 1 := by
        cases f with
        | zero => simp at hmf; omega
        | succ g => exact ⟨g, rfl⟩
      have hmg : m / 1000000000 < 1000000000 ^ g := by
        rw [Int.pow_succ] at hmf
        exact Int.ediv_lt_of_lt_mul (by omega) hmf
      have HS : Hid (out ++ [m % 1000000000] ++ limbs (m / 1000000000).toNat = limbs n.toNat) := Lib.hid (by
        have e := HE.out
        rw [limbs_pos m.toNat (by omega)] at e
        rw [List.append_assoc, ← e, show ((m.toNat % 1000000000 : Nat) : Int) = m % 1000000000 from by omega, show m.toNat / 1000000000 = (m / 1000000000).toNat from by omega]
        rfl)
      clear hmf
      go_wp2_with (at_builtin; refine wpList_append_own _ rfl (.tmp 8) (.tmp 11) 22 rfl w.heap.size 3 i0 (.int .i64 0) 1 8 Tryz.underlying22 hi hz0 hz1 hz2 rfl (by decide) _ _ _ rfl (own_alloc hown _) ⟨wr.heap.size, 0, none⟩ 1 1 [.int .i64 (m % 1000000000)] rfl rfl (one_new _ _ _) ?c2 ?c3 ?c4 ?c5 ?_)
      case c2 => first | (intro u hu; simp at hu; subst hu; rfl) | rfl
      case c3 => unfold maxLen; omega
      case c4 => omega
      case c5 => have := hb1.size; simp; omega
      intro v1 w1 hown1 hg1 _
      have hb2 := below_push hb1 (Nat.le_refl _) hown hg1
      go_wp2
      exact ⟨⟨m / 1000000000, out ++ [m % 1000000000], g, by omega, by simp; omega, hmg, rfl, HS, by simpa [intsV] using hown1, hb2⟩, by simp [intOf]; omega⟩
    · have HF : Hid (out = limbs n.toNat) := Lib.hid (by have e := HE.out; rwa [show m.toNat = 0 from by omega, limbs_none, List.append_nil] at e)
      go_wp2
      go_ret
      exact ⟨_, rfl, by rw [← HF.out]; exact hown, hb1⟩

/-- a callee that only computes, met inside a region that draws -/
theorem quiet_at {P : Program} {f : FuncId} {args : Array Value} {W : World} {X : Nat → World} {n : Nat} {v : Value} (hX : X n = W)
    (h : Calls P f args W fun e w' => e = .returned v ∧ W = w') : Calls P f args W fun e w'' => e = .returned v ∧ ∃ m, w'' = X m :=
  h.mono fun _ _ ⟨he, hm⟩ => ⟨he, n, hm.symm.trans hX.symm⟩

set_option maxHeartbeats 400000 in
set_option maxRecDepth 100000 in
theorem isNaN_any (x : Int) (w : World) : Calls Tryz.prog 245 #[.int .i64 x] w fun e w' => e = .returned (.bool false) ∧ w = w' := by
  go_enter Tryz.func245, Tryz.ntmps245
  go_wp2
  go_ret
  exact ⟨by simp, rfl⟩
set_option maxHeartbeats 400000 in
set_option maxRecDepth 100000 in
theorem compare_any (x y : Int) (w : World) : Calls Tryz.prog 217 #[.int .i64 x, .int .i64 y] w fun e w' => e = .returned (.int .i64 (cmpI x y)) ∧ w = w' := by
  go_enter Tryz.func217, Tryz.ntmps217
  go_wp2_with (go_at_call 245; refine (isNaN_any _ _).mono ?_; rintro e w' ⟨rfl, rfl⟩)
  all_goals (go_ret; refine ⟨?_, rfl⟩; unfold cmpI; (repeat' split) <;> first | rfl | (exfalso; omega))

set_option maxHeartbeats 1000000 in
set_option maxRecDepth 100000 in
theorem compareLimbs_any (va vb : Value) (a b : List Int) (la ha lb hb : Nat) (w : World) (hal : a.length ≤ 9223372036854775807) (_hbl : b.length ≤ 9223372036854775807) (oa : DigN a ∧ a.getLastD 1 ≠ 0) (ob : DigN b ∧ b.getLastD 1 ≠ 0)
    (hra : Row w la ha va (intsV a)) (hrb : Row w lb hb vb (intsV b)) :
    Calls Tryz.prog 187 #[va, vb] w fun e w' => e = .returned (.int .i64 (cmpI (nval a) (nval b))) ∧ ∃ q, w.drewN q = w' := by
  have OA := Lib.hid oa
  have OB := Lib.hid ob
  obtain ⟨A, c, rfl, hA⟩ := hra
  obtain ⟨B, d, rfl, hB⟩ := hrb
  rw [intsV_length]
  rw [intsV_length]
  have HA := Lib.hid hA
  have HB := Lib.hid hB
  clear hA hB oa ob
  by_cases hlen : a.length = b.length
  · have HL := Lib.hid hlen
    have hbe : ((a.length : Int) != (b.length : Int)) = false := by simp [hlen]
    clear hlen
    go_enter Tryz.func187, Tryz.ntmps187
    go_wp2
    go_loopw [5] (fun i wr => ∃ k q : Nat, k ≤ a.length ∧ i = .int .i64 ((k : Int) - 1) ∧ wr = w.drewN q ∧ Hid (a.drop k = b.drop k)) (fun i _ => (intOf i + 1).toNat)
    case atStart => exact ⟨a.length, 0, Nat.le_refl _, rfl, rfl, Lib.hid (by rw [List.drop_of_length_le (Nat.le_refl _), List.drop_of_length_le (by have := HL.out; omega)])⟩
    case round =>
      obtain ⟨k, q, hk, rfl, rfl, HT⟩ := hrel
      by_cases hz : 0 < k
      · obtain ⟨m, rfl⟩ : ∃ m, k = m + 1 := ⟨k - 1, by omega⟩
        have hlt : m < a.length := by omega
        have hlt2 : m < b.length := by have := HL.out; omega
        obtain ⟨p, rfl, _, _, hca⟩ := HA.out m _ (intsV_at a m hlt)
        obtain ⟨r, rfl, _, _, hcb⟩ := HB.out m _ (intsV_at b m hlt2)
        have hm1 : ((m + 1 : Nat) : Int) - 1 = (m : Int) := by omega
        rw [hm1]
        clear hm1 hz
        by_cases he : a[m] = b[m]
        · have hne : (a[m] != b[m]) = false := by simp [he]
          have HS := Lib.hid (drop_same a b m hlt hlt2 HT.out he)
          clear he
          go_wp2
          go_quiet (fail)
          go_wp2
          go_roundw
          case rel => exact ⟨m, _, by omega, rfl, rfl, HS⟩
          case measure => simp [intOf]
        · have hne : (a[m] != b[m]) = true := by rw [bne_iff_ne]; exact he
          have HV : Hid (cmpI a[m] b[m] = cmpI (nval a) (nval b)) := Lib.hid (by
            by_cases h1 : a[m] < b[m]
            · rw [cmp_lt h1, cmp_lt (nval_lt_down a b OA.out.1 OB.out.1 HL.out m (by rw [nval_drop a m hlt, nval_drop b m hlt2, HT.out]; omega))]
            · rw [cmp_gt (show b[m] < a[m] by omega), cmp_gt (nval_lt_down b a OB.out.1 OA.out.1 HL.out.symm m (by rw [nval_drop a m hlt, nval_drop b m hlt2, HT.out]; omega))])
          clear he
          go_wp2
          go_quiet (fail)
          go_wp2
          go_quiet ((go_at_call 217; exact quiet_at rfl (compare_any _ _ _)))
          go_wp2
          go_ret
          exact ⟨ret_int HV.out, drew_three _ _ _ _⟩
      · obtain rfl : k = 0 := by omega
        go_wp2
        go_ret
        exact ⟨ret_int (cmp_eq (by have := HT.out; rw [List.drop_zero, List.drop_zero] at this; rw [this])).symm, q, rfl⟩
  · have hbe : ((a.length : Int) != (b.length : Int)) = true := by simp; omega
    have HV : Hid (cmpI (a.length : Int) (b.length : Int) = cmpI (nval a) (nval b)) := Lib.hid (by
      by_cases hs : a.length < b.length
      · rw [cmp_lt (by omega), cmp_lt (nval_short a b OA.out.1 OB.out.1 hs OB.out.2)]
      · rw [cmp_gt (by omega), cmp_gt (nval_short b a OB.out.1 OA.out.1 (by omega) OA.out.2)])
    clear hlen
    go_enter Tryz.func187, Tryz.ntmps187
    go_wp2_with (go_at_call 217; refine (compare_any _ _ _).mono ?_; rintro e w' ⟨rfl, rfl⟩)
    go_ret
    exact ⟨ret_int HV.out, 0, rfl⟩

set_option maxHeartbeats 1000000 in
set_option maxRecDepth 100000 in
theorem implNatCmp_drew (va vb : Value) (a b : List Int) (la ha lb hb : Nat) (w : World) (hal : a.length ≤ 9223372036854775807) (hbl : b.length ≤ 9223372036854775807)
    (hra : Row w la ha va (intsV a)) (hrb : Row w lb hb vb (intsV b)) :
    Calls Tryz.prog 208 #[va, vb] w fun e w' => e = .returned (.int .i64 (cmpN a b)) ∧ ∃ q, w.drewN q = w' := by
  by_cases oa : natOkB a = true
  · by_cases ob : natOkB b = true
    · have HC := Lib.hid (show cmpN a b = cmpI (nval a) (nval b) by unfold cmpN; rw [if_pos ⟨oa, ob⟩])
      have OA := Lib.hid (ok_dig oa)
      have OB := Lib.hid (ok_dig ob)
      go_enter Tryz.func208, Tryz.ntmps208
      go_wp2_with fail
      refine (implNatOk_same va a la ha _ hal hra).mono ?_
      rintro e w' ⟨rfl, rfl⟩
      rw [oa]
      go_wp2_with fail
      refine (implNatOk_same vb b lb hb _ hbl hrb).mono ?_
      rintro e w' ⟨rfl, rfl⟩
      rw [ob]
      clear oa ob
      go_wp2_with fail
      refine (compareLimbs_any va vb a b la ha lb hb _ hal hbl OA.out OB.out hra hrb).mono ?_
      rintro e w' ⟨rfl, q, rfl⟩
      go_wp2
      go_ret
      exact ⟨ret_int HC.out.symm, q, rfl⟩
    · have ob' : natOkB b = false := by simpa using ob
      have HC := Lib.hid (show cmpN a b = 0 by unfold cmpN; rw [if_neg (fun h => ob h.2)])
      clear ob
      go_enter Tryz.func208, Tryz.ntmps208
      go_wp2_with fail
      refine (implNatOk_same va a la ha _ hal hra).mono ?_
      rintro e w' ⟨rfl, rfl⟩
      rw [oa]
      go_wp2_with fail
      refine (implNatOk_same vb b lb hb _ hbl hrb).mono ?_
      rintro e w' ⟨rfl, rfl⟩
      rw [ob']
      go_wp2
      go_ret
      exact ⟨ret_int HC.out.symm, 0, rfl⟩
  · have oa' : natOkB a = false := by simpa using oa
    have HC := Lib.hid (show cmpN a b = 0 by unfold cmpN; rw [if_neg (fun h => oa h.1)])
    clear oa
    go_enter Tryz.func208, Tryz.ntmps208
    go_wp2_with fail
    refine (implNatOk_same va a la ha _ hal hra).mono ?_
    rintro e w' ⟨rfl, rfl⟩
    rw [oa']
    go_wp2
    go_ret
    exact ⟨ret_int HC.out.symm, 0, rfl⟩
theorem implNatCmp_any (va vb : Value) (a b : List Int) (la ha lb hb : Nat) (w : World) (hal : a.length ≤ 1048576) (hbl : b.length ≤ 1048576) (_ : ha ≤ w.heap.size) (_ : hb ≤ w.heap.size)
    (hra : Row w la ha va (intsV a)) (hrb : Row w lb hb vb (intsV b)) :
    Calls Tryz.prog 208 #[va, vb] w fun e w' => e = .returned (.int .i64 (cmpN a b)) ∧ Below w.heap.size w w' := by
  refine (implNatCmp_drew va vb a b la ha lb hb w (by omega) (by omega) hra hrb).mono ?_
  rintro e w' ⟨rfl, q, rfl⟩
  exact ⟨rfl, below_drewN (Below.refl _ _) q⟩

end Go.Proofs.YtofehcpapdlcnaaGreatDoor

namespace Go.Proofs.YtofehcpapdlcnaaGreatDoor
open Go.RowKit

/-- what a nat lies in: the cells behind its limbs, and the type of the block (a nat alone, or the head of an integer) -/
structure NatK where
  rest : List Value
  ty : TypeId
  ne : ty ≠ 3
@[reducible] def natK : NatK := ⟨[], 102, by decide⟩
/-- the pointer at block b leads to a nat of the call's own whose limbs are xs -/
def NatX (K : NatK) (B b : Nat) (xs : List Int) (w : World) : Prop :=
  B ≤ b ∧ ∃ v, w.heap[b]? = some (.cells (v :: K.rest).toArray K.ty (0, 0)) ∧ w.ownsRow B 3 1 v xs.length (intsV xs) ∧ v.ownBlock ≠ some b

abbrev NatAt (B b : Nat) (xs : List Int) (w : World) : Prop := NatX natK B b xs w

theorem NatX.lt {K : NatK} {B b : Nat} {xs : List Int} {w : World} (h : NatX K B b xs w) : b < w.heap.size := by
  obtain ⟨_, v, hb, _⟩ := h
  exact (Array.getElem?_eq_some_iff.1 hb).1
theorem NatX.cell {K : NatK} {v : Value} {b : Nat} {w : World} (hb : w.heap[b]? = some (.cells (v :: K.rest).toArray K.ty (0, 0))) : w.cell? ⟨b, 0, none⟩ = some v := by
  rw [Lib.cell_of_heap hb]; simp
theorem NatX.cell1 {K : NatK} {v u : Value} {b : Nat} {w : World} (hb : w.heap[b]? = some (.cells (v :: K.rest).toArray K.ty (0, 0))) (j : Nat) (hj : K.rest[j]? = some u) : w.cell? ⟨b, j + 1, none⟩ = some u := by
  rw [Lib.cell_of_heap hb]; simpa using hj
/-- new limbs laid into it -/
theorem NatX.put {K : NatK} {B b : Nat} {v v' : Value} {ys : List Int} {w : World} (hB : B ≤ b) (hb : w.heap[b]? = some (.cells (v :: K.rest).toArray K.ty (0, 0))) (hown : w.ownsRow B 3 1 v' ys.length (intsV ys)) :
    NatX K B b ys (w.setCell ⟨b, 0, none⟩ v') := by
  have hne := Lib.ownBlock_ne hown hb K.ne
  refine ⟨hB, v', ?_, ?_, hne⟩
  · simp [World.setCell, Array.getElem?_modify, hb]
  · exact hown.kept (row := some b) ⟨rfl, rfl, rfl, by simp [World.setCell], fun k _ hk => Below.heap_setCell _ _ _ _ (fun e => hk (by simp [e]))⟩ (Or.inr hne)
theorem NatAt.put {B b : Nat} {v v' : Value} {ys : List Int} {w : World} (hB : B ≤ b) (hb : w.heap[b]? = some (.cells #[v] 102 (0, 0))) (hown : w.ownsRow B 3 1 v' ys.length (intsV ys)) :
    NatAt B b ys (w.setCell ⟨b, 0, none⟩ v') := NatX.put (K := natK) hB hb hown
theorem NatX.new {K : NatK} {B : Nat} {v : Value} {xs : List Int} {w : World} (hB : B ≤ w.heap.size) (hown : w.ownsRow B 3 1 v xs.length (intsV xs)) : NatX K B w.heap.size xs (w.alloc (.cells (v :: K.rest).toArray K.ty)) := by
  refine ⟨hB, v, heap_alloc_new w _, own_alloc hown _, fun h => ?_⟩
  have := (own_lt hown h).2
  omega
theorem NatAt.new {B : Nat} {v : Value} {xs : List Int} {w : World} (hB : B ≤ w.heap.size) (hown : w.ownsRow B 3 1 v xs.length (intsV xs)) : NatAt B w.heap.size xs (w.alloc (.cells #[v] 102)) :=
  NatX.new (K := natK) hB hown

set_option maxHeartbeats 1000000 in
set_option maxRecDepth 100000 in
theorem cloneI_any (v : Value) (xs : List Int) (lo hi : Nat) (w : World) (hl : xs.length ≤ 1048576) (hr : Row w lo hi v (intsV xs)) :
    Calls Tryz.prog 231 #[v] w (NewInts xs w) := by
  obtain ⟨i0, hi0, hz0, hz1, hz2⟩ := info_parts intInfo
  obtain ⟨A, c, rfl, hA⟩ := hr
  have q22 : ∀ (w : World) (a : Option Addr) (n c n' c' : Nat), (binOp .eql 22 (.slice a n c) (.slice none n' c')).run Tryz.prog w = .ok (.bool a.isNone) w := fun w a n c n' c' => Lib.run_eql_slice_nil w _ _ a n c n' c' Tryz.underlying22
  cases A with
  | none =>
    obtain rfl : xs = [] := by
      cases xs with
      | nil => rfl
      | cons x r =>
        obtain ⟨a, e, _⟩ := hA 0 _ rfl
        cases e
    clear hA
    go_enter Tryz.func231, Tryz.ntmps231
    go_wp2
    go_ret
    exact ⟨_, rfl, World.ownsRow_nil _ _ _ _, Below.refl _ _⟩
  | some a =>
    have HA := Lib.hid hA
    clear hA
    rw [intsV_length]
    go_enter Tryz.func231, Tryz.ntmps231
    go_wp2_with (at_builtin; refine wpList_append_own _ rfl _ _ 22 rfl w.heap.size 3 i0 (.int .i64 0) 1 8 Tryz.underlying22 hi0 hz0 hz1 hz2 rfl (by decide) _ _ _ rfl (World.ownsRow_made w #[] 0 (Nat.le_refl _) (Nat.zero_le _) rfl) a xs.length c (intsV xs) rfl ?qc1 ?qc2 ?qc3 ?qc4 ?qc5 ?qc6 ?_)
    case qc1 => simp [intsV_length]
    case qc2 =>
      intro j u hj
      obtain ⟨p, e, h1, h2, h3⟩ := HA.out j u hj
      cases e
      exact Lib.cell?_alloc_some _ h3
    case qc3 => intro u hu; obtain ⟨x, _, rfl⟩ := List.mem_map.1 hu; rfl
    case qc4 => unfold maxLen; omega
    case qc5 => omega
    case qc6 => simp
    intro v' w1 hown hgrow hnil
    go_wp2
    go_ret
    exact ⟨v', rfl, by simpa using hown, ((Below.refl _ w).alloc (Nat.le_refl _) _).grown hgrow (by simp) (by intro k hk; simp [Value.ownBlock] at hk; omega)⟩

/-- a new nat that holds xs -/
def NewNat (xs : List Int) (w : World) (e : Ending) (w' : World) : Prop :=
  ∃ b, e = .returned (.pointer (some ⟨b, 0, none⟩)) ∧ NatAt w.heap.size b xs w' ∧ Below w.heap.size w w'

set_option maxHeartbeats 400000 in
set_option maxRecDepth 100000 in
theorem copyNat_any (v : Value) (xs : List Int) (lo hi : Nat) (w : World) (hl : xs.length ≤ 1048576) (hr : Row w lo hi v (intsV xs)) :
    Calls Tryz.prog 210 #[v] w (NewNat xs w) := by
  go_enter Tryz.func210, Tryz.ntmps210
  go_wp2_with fail
  refine (cloneI_any v xs lo hi _ hl hr).mono ?_
  rintro e w1 ⟨v1, rfl, o1, b1⟩
  obtain ⟨A1, c1, rfl⟩ := own_len o1
  go_wp2
  go_ret
  exact ⟨_, rfl, NatAt.new b1.size o1, b1.alloc b1.size _⟩

set_option maxHeartbeats 400000 in
set_option maxRecDepth 100000 in
theorem natResult_any {K : NatK} (B b : Nat) (xs : List Int) (w : World) (hl : xs.length ≤ 1048576) (h : NatX K B b xs w) :
    Calls Tryz.prog 152 #[.pointer (some ⟨b, 0, none⟩)] w (OwnPost B (capL xs) w) := by
  obtain ⟨hB, v, hb, hown, hne⟩ := h
  have hc : w.cell? ⟨b, 0, none⟩ = some v := NatX.cell hb
  obtain ⟨A, c, rfl⟩ := own_len hown
  have HB := Lib.hid hb
  have HO := Lib.hid hown
  clear hb hown hne
  by_cases h50 : 50 < xs.length
  · have HR := Lib.hid (show capL xs = [] by unfold capL; rw [if_pos h50])
    go_enter Tryz.func152, Tryz.ntmps152
    go_wp2
    go_ret
    exact ⟨rfl, _, rfl, by rw [HR.out]; exact World.ownsRow_nil _ _ _ _⟩
  · have HR := Lib.hid (show capL xs = xs by unfold capL; rw [if_neg h50])
    go_enter Tryz.func152, Tryz.ntmps152
    go_wp2
    go_ret
    exact ⟨rfl, _, rfl, by rw [HR.out]; exact HO.out⟩
end Go.Proofs.YtofehcpapdlcnaaGreatDoor
