/-
  Chapter 6 of package spec: sums of fractions.
  What RatNeg of package spec returns.
  Chapter 7 of package spec: what its functions return.
  What RatSub of package spec returns.
  RatRest of package spec.
  Plain facts for impl's fractions: the operations on the parts as RatMake puts them together.
  Contracts of library functions, laid over this program: each is one application of a theorem of the library.
-/
import Derived.Deep.DeepCutAuto
import Derived.Laws.OwnMore
import Derived.Deep.RegionLaw
import Derived.Deep.AppendLies
import Derived.Deep.RegionHeld3
import Derived.Shelf.Bits.Mul64
import Derived.Shelf.Small.Bits
import Derived.Shelf.Small.Wraps
import Derived.Shelf.Strconv.Itoa3
import Derived.Shelf.Strings.BuilderK
import Derived.Shelf.Strings.Repeat
import Derived.Shelf.Strings.Search2
import Derived.Shelf.Strings.Trim
import Derived.Test.YthfkdofnoomhaaaGreatDoorProg
import Derived.Test.YthfkdofnoomhaaaGreatDoorJB4
namespace Go.Proofs.YthfkdofnoomhaaaGreatDoor
open Go.RowKit

set_option maxHeartbeats 2000000 in
set_option maxRecDepth 100000 in
theorem specRatAdd_any (vr : Value) (vs : Value) (r s : QI) (w : World) (hzr : szQ r ≤ 1048576) (hzs : szQ s ≤ 1048576) (hr : OwnQ vr r w) (hs : OwnQ vs s w) :
    Calls Tryz.prog 174 #[vr, vs] w (PostQb (addQ r s).1 (addQ r s).2 w) := by
  have Hr := Lib.hid hr
  obtain ⟨Ar, cr, Br, dr, rfl⟩ := ownQ_form hr
  have OQr := Lib.hid (show ∀ W, Below w.heap.size w W → OwnQ (.agg #[.bool r.1.1, .slice Ar r.1.2.length cr, .slice Br r.2.length dr]) r W from fun W hb => OwnQ.below Hr.out hb)
  have OUr := Lib.hid (show ∀ W, Below w.heap.size w W → OwnI (.slice Ar r.1.2.length cr) r.1.2 W from fun W hb => (ownQ_open (OQr.out W hb)).2.1)
  have ODr := Lib.hid (show ∀ W, Below w.heap.size w W → OwnI (.slice Br r.2.length dr) r.2 W from fun W hb => (ownQ_open (OQr.out W hb)).2.2.1)
  have OSr := Lib.hid (show ∀ W, Below w.heap.size w W → OwnS (.agg #[.bool r.1.1, .slice Ar r.1.2.length cr]) r.1 W from fun W hb => OwnS.mk (OUr.out W hb))
  clear hr
  have Hs := Lib.hid hs
  obtain ⟨As, cs, Bs, ds, rfl⟩ := ownQ_form hs
  have OQs := Lib.hid (show ∀ W, Below w.heap.size w W → OwnQ (.agg #[.bool s.1.1, .slice As s.1.2.length cs, .slice Bs s.2.length ds]) s W from fun W hb => OwnQ.below Hs.out hb)
  have OUs := Lib.hid (show ∀ W, Below w.heap.size w W → OwnI (.slice As s.1.2.length cs) s.1.2 W from fun W hb => (ownQ_open (OQs.out W hb)).2.1)
  have ODs := Lib.hid (show ∀ W, Below w.heap.size w W → OwnI (.slice Bs s.2.length ds) s.2 W from fun W hb => (ownQ_open (OQs.out W hb)).2.2.1)
  have OSs := Lib.hid (show ∀ W, Below w.heap.size w W → OwnS (.agg #[.bool s.1.1, .slice As s.1.2.length cs]) s.1 W from fun W hb => OwnS.mk (OUs.out W hb))
  clear hs
  have hlr := szQ_len hzr
  have hl1r := hlr.1
  have hl2r := hlr.2
  clear hlr
  have hls := szQ_len hzs
  have hl1s := hls.1
  have hl2s := hls.2
  clear hls
  have bb0 : Below w.heap.size w (((w.alloc (.cells #[.bool r.1.1, .slice Ar r.1.2.length cr, .slice Br r.2.length dr] 34)).alloc (.cells #[.bool s.1.1, .slice As s.1.2.length cs, .slice Bs s.2.length ds] 34)).alloc (.cells #[.bool false, .slice none 0 0, .slice none 0 0] 34)) := below_al (below_al (below_al (Below.refl _ _) _) _) _
  have kr := (box_new w #[.bool r.1.1, .slice Ar r.1.2.length cr, .slice Br r.2.length dr] 34).below (below_al (below_al (Below.refl _ _) (.cells #[.bool s.1.1, .slice As s.1.2.length cs, .slice Bs s.2.length ds] 34)) (.cells #[.bool false, .slice none 0 0, .slice none 0 0] 34))
  have ks := (box_new (w.alloc (.cells #[.bool r.1.1, .slice Ar r.1.2.length cr, .slice Br r.2.length dr] 34)) #[.bool s.1.1, .slice As s.1.2.length cs, .slice Bs s.2.length ds] 34).below (below_al (Below.refl _ _) (.cells #[.bool false, .slice none 0 0, .slice none 0 0] 34))
  rw [show (w.alloc (.cells #[.bool r.1.1, .slice Ar r.1.2.length cr, .slice Br r.2.length dr] 34)).heap.size = w.heap.size + 1 by simp] at ks
  have ko := (box_new ((w.alloc (.cells #[.bool r.1.1, .slice Ar r.1.2.length cr, .slice Br r.2.length dr] 34)).alloc (.cells #[.bool s.1.1, .slice As s.1.2.length cs, .slice Bs s.2.length ds] 34)) #[.bool false, .slice none 0 0, .slice none 0 0] 34)
  rw [show ((w.alloc (.cells #[.bool r.1.1, .slice Ar r.1.2.length cr, .slice Br r.2.length dr] 34)).alloc (.cells #[.bool s.1.1, .slice As s.1.2.length cs, .slice Bs s.2.length ds] 34)).heap.size = w.heap.size + 1 + 1 by simp] at ko
  go_enter Tryz.func174, Tryz.ntmps174
  have kr_c0 := kr.here.cell 0 _ rfl
  have kr_c1 := kr.here.cell 1 _ rfl
  have kr_c2 := kr.here.cell 2 _ rfl
  go_wp2_with fail
  clear kr_c0 kr_c1 kr_c2
  refine (specRatOk_any _ r _ hzr (OQr.out _ bb0)).mono ?_
  rintro e w1 ⟨rfl, b1⟩
  have bb1 := Below.next bb0 b1
  replace kr := kr.below b1
  replace ks := ks.below b1
  replace ko := ko.below b1
  by_cases okr : okQ r = true
  · rw [okr]
    have HOr := Lib.hid okr
    clear okr
    have ks_c0 := ks.here.cell 0 _ rfl
    have ks_c1 := ks.here.cell 1 _ rfl
    have ks_c2 := ks.here.cell 2 _ rfl
    go_wp2_with fail
    clear ks_c0 ks_c1 ks_c2
    refine (specRatOk_any _ s _ hzs (OQs.out _ bb1)).mono ?_
    rintro e w2 ⟨rfl, b2⟩
    have bb2 := Below.next bb1 b2
    replace kr := kr.below b2
    replace ks := ks.below b2
    replace ko := ko.below b2
    by_cases oks : okQ s = true
    · rw [oks]
      have HOs := Lib.hid oks
      clear oks
      have Pr := parts_of HOr.out
      have Ps := parts_of HOs.out
      have HPr := Lib.hid Pr
      have HPs := Lib.hid Ps
      have hnr := Pr.n50
      have hns := Ps.n50
      have hdr := Pr.d50
      have hds := Ps.d50
      clear Pr Ps
      obtain ⟨X1, hEX1⟩ : ∃ X1, (nval (r.1.2) * nval (s.2)).toNat = X1 := ⟨_, rfl⟩
      have EX1 := Lib.hid hEX1
      have PX1 := Lib.hid (show X1 = topN r * denQ s by rw [← hEX1, mul_toNat (okS_parts HPr.out.okn).1 HPs.out.okd]; rfl)
      have LX1 := Lib.hid (show (limbs X1).length ≤ 36 by rw [PX1.out]; exact prod_len HPr.out.nlt HPs.out.dlt)
      clear hEX1
      obtain ⟨X2, hEX2⟩ : ∃ X2, (nval (s.1.2) * nval (r.2)).toNat = X2 := ⟨_, rfl⟩
      have EX2 := Lib.hid hEX2
      have PX2 := Lib.hid (show X2 = topN s * denQ r by rw [← hEX2, mul_toNat (okS_parts HPs.out.okn).1 HPr.out.okd]; rfl)
      have LX2 := Lib.hid (show (limbs X2).length ≤ 36 by rw [PX2.out]; exact prod_len HPs.out.nlt HPr.out.dlt)
      clear hEX2
      obtain ⟨X3, hEX3⟩ : ∃ X3, (nval (r.2) * nval (s.2)).toNat = X3 := ⟨_, rfl⟩
      have EX3 := Lib.hid hEX3
      have PX3 := Lib.hid (show X3 = denQ r * denQ s by rw [← hEX3, mul_toNat HPr.out.okd HPs.out.okd]; rfl)
      have LX3 := Lib.hid (show (limbs X3).length ≤ 36 by rw [PX3.out]; exact prod_len HPr.out.dlt HPs.out.dlt)
      clear hEX3
      obtain ⟨P1, hEP1⟩ : ∃ P1, mkS r.1.1 (limbs X1) = P1 := ⟨_, rfl⟩
      have EP1 := Lib.hid hEP1
      have VP1 := Lib.hid (show okS P1 = true ∧ valS P1 = numQ r * denQ s ∧ P1.2.length ≤ 50 ∧ -(bp 36) < valS P1 ∧ valS P1 < bp 36 by
        rw [← hEP1, PX1.out]
        have h1 := cross_ofZ (n := r.1.1) (X := topN r) (Y := denQ s)
        have h2 := cross_val (n := r.1.1) HPr.out.nlt HPs.out.dlt
        have h3 := cross_lt (n := r.1.1) HPr.out.nlt HPs.out.dlt
        have h4 : valS (mkS r.1.1 (limbs (topN r * denQ s))) = numQ r * denQ s := by rw [h2, HPr.out.top]
        exact ⟨h1.2.1, h4, h1.2.2, by rw [h2]; exact h3.1, by rw [h2]; exact h3.2⟩)
      clear hEP1
      obtain ⟨P2, hEP2⟩ : ∃ P2, mkS s.1.1 (limbs X2) = P2 := ⟨_, rfl⟩
      have EP2 := Lib.hid hEP2
      have VP2 := Lib.hid (show okS P2 = true ∧ valS P2 = numQ s * denQ r ∧ P2.2.length ≤ 50 ∧ -(bp 36) < valS P2 ∧ valS P2 < bp 36 by
        rw [← hEP2, PX2.out]
        have h1 := cross_ofZ (n := s.1.1) (X := topN s) (Y := denQ r)
        have h2 := cross_val (n := s.1.1) HPs.out.nlt HPr.out.dlt
        have h3 := cross_lt (n := s.1.1) HPs.out.nlt HPr.out.dlt
        have h4 : valS (mkS s.1.1 (limbs (topN s * denQ r))) = numQ s * denQ r := by rw [h2, HPs.out.top]
        exact ⟨h1.2.1, h4, h1.2.2, by rw [h2]; exact h3.1, by rw [h2]; exact h3.2⟩)
      clear hEP2
      obtain ⟨N, hN⟩ : ∃ N, ofZ (valS P1 + valS P2) = N := ⟨_, rfl⟩
      have EN := Lib.hid hN
      have b37 := bp37
      have SN := sum_ofZ (z := valS P1 + valS P2) (by have := VP1.out; have := VP2.out; omega) (by have := VP1.out; have := VP2.out; omega)
      obtain ⟨X4, hX4⟩ : ∃ X4, (valS P1 + valS P2).natAbs = X4 := ⟨_, rfl⟩
      rw [hN, hX4] at SN
      have N1 := Lib.hid (show N.1 = decide (numQ r * denQ s + numQ s * denQ r < 0) by rw [SN.1, VP1.out.2.1, VP2.out.2.1])
      have N2 := Lib.hid (show N.2 = limbs X4 by rw [SN.1])
      have L4 := Lib.hid SN.2
      have HV := Lib.hid (show addQ r s = lowQ N.1 X4 X3 by unfold addQ; rw [if_pos ⟨HOr.out, HOs.out⟩, N1.out, ← hX4, VP1.out.2.1, VP2.out.2.1, PX3.out])
      clear hN hX4 SN b37
      have hkr := kr.lt _ (List.mem_singleton.2 rfl)
      have hks := ks.lt _ (List.mem_singleton.2 rfl)
      have hko := ko.lt (w.heap.size + 1 + 1) (by simp)
      have kr_c0 := kr.here.cell 0 _ rfl
      have kr_c1 := kr.here.cell 1 _ rfl
      have kr_c2 := kr.here.cell 2 _ rfl
      have ks_c0 := ks.here.cell 0 _ rfl
      have ks_c1 := ks.here.cell 1 _ rfl
      have ks_c2 := ks.here.cell 2 _ rfl
      go_upto_region 7 with fail
      go_cut [6] (fun s wx => NewLocV 28 (fun v => OwnS v P1) w2 s wx)
      case first =>
        have HC0 := Lib.hid (show Chg [] w2 w2.drew from (Chg.refl _ _).drew1)
        have HCr := Lib.hid (show Chg [] w2 w2 from Chg.refl _ _)
        have KL := Lib.hid (show ∀ W, Chg [] w2 W → W.cell? ⟨w.heap.size, 0, none⟩ = some (.bool r.1.1) ∧ W.cell? ⟨w.heap.size, 1, none⟩ = some (.slice Ar r.1.2.length cr) ∧ W.cell? ⟨w.heap.size, 2, none⟩ = some (.slice Br r.2.length dr) ∧ W.cell? ⟨w.heap.size + 1, 0, none⟩ = some (.bool s.1.1) ∧ W.cell? ⟨w.heap.size + 1, 1, none⟩ = some (.slice As s.1.2.length cs) ∧ W.cell? ⟨w.heap.size + 1, 2, none⟩ = some (.slice Bs s.2.length ds) ∧ Hid (Chg [] w2 W) from fun W hc => ⟨(kr.chg hc (fun i hi hm => by simp at hm)).here.cell 0 _ rfl, (kr.chg hc (fun i hi hm => by simp at hm)).here.cell 1 _ rfl, (kr.chg hc (fun i hi hm => by simp at hm)).here.cell 2 _ rfl, (ks.chg hc (fun i hi hm => by simp at hm)).here.cell 0 _ rfl, (ks.chg hc (fun i hi hm => by simp at hm)).here.cell 1 _ rfl, (ks.chg hc (fun i hi hm => by simp at hm)).here.cell 2 _ rfl, Lib.hid hc⟩)
        have BBF := Lib.hid (show ∀ W, Chg [] w2 W → Below w.heap.size w W from fun W hc => below_chg bb2 hc bb2.size (fun i hi => by simp at hi))
        clear kr_c0 kr_c1 kr_c2 ks_c0 ks_c1 ks_c2
        go_region_held3 (fun W => W.cell? ⟨w.heap.size, 0, none⟩ = some (.bool r.1.1) ∧ W.cell? ⟨w.heap.size, 1, none⟩ = some (.slice Ar r.1.2.length cr) ∧ W.cell? ⟨w.heap.size, 2, none⟩ = some (.slice Br r.2.length dr) ∧ W.cell? ⟨w.heap.size + 1, 0, none⟩ = some (.bool s.1.1) ∧ W.cell? ⟨w.heap.size + 1, 1, none⟩ = some (.slice As s.1.2.length cs) ∧ W.cell? ⟨w.heap.size + 1, 2, none⟩ = some (.slice Bs s.2.length ds) ∧ Hid (Chg [] w2 W))
          ((refine KL.out _ ?_; (first | exact HC4.out | exact HC3.out | exact HCr.out | exact HC0.out | exact HC4.out.drew1 | exact HC3.out.drew1 | exact HCr.out.drew1 | exact HC0.out.drew1 | exact HC4.out.trans (Chg.of_below (below_al (Below.refl _ _) _)) | exact HC3.out.trans (Chg.of_below (below_al (Below.refl _ _) _)) | exact HCr.out.trans (Chg.of_below (below_al (Below.refl _ _) _)) | exact HC0.out.trans (Chg.of_below (below_al (Below.refl _ _) _)) | exact (Chg.setNew HC4.out (by first | exact HC4.out.size | exact HC3.out.size | exact HCr.out.size | exact HC0.out.size) _) | exact (Chg.setNew (Chg.setNew HC4.out (by first | exact HC4.out.size | exact HC3.out.size | exact HCr.out.size | exact HC0.out.size) _) (by first | exact HC4.out.size | exact HC3.out.size | exact HCr.out.size | exact HC0.out.size) _) | fail)))
          (first
            | (go_at_call 63; (have hBB := (‹_ ∧ _ ∧ _ ∧ _ ∧ _ ∧ _ ∧ Hid (Chg [] w2 _)›).2.2.2.2.2.2); (with_reducible refine (mulX_any _ _ (r.1.2) (s.2) X1 _ hnr hds ((okS_parts HPr.out.okn).1) (HPs.out.okd) EX1.out (OUr.out _ (BBF.out _ hBB.out)) (ODs.out _ (BBF.out _ hBB.out))).mono ?_); rintro e w3 ⟨um, Sm, rfl, om, lm, b3⟩; have HC3 := Lib.hid (hBB.out.trans (Chg.of_below b3)); obtain ⟨Em, em, rfl⟩ := own_len om.here; (first | (have early3 : At [w2.heap.size] (BoxAt w2.heap.size #[.bool false, .slice none 0 0] 28) w3 := At.below (box_new w2.drew _ _) b3) | (have early3 := At.below (box_new _ #[.bool false, .slice none 0 0] 28) b3) | (have early3 := At.below early2 b3) | skip); have HBZ3 := Lib.hid hBB.out.size; clear hBB)
            | (go_at_call 69; (have hBB := (‹_ ∧ _ ∧ _ ∧ _ ∧ _ ∧ _ ∧ Hid (Chg [] w2 _)›).2.2.2.2.2.2); (with_reducible refine (makeX_any _ _ X1 P1 _ (Nat.le_trans LX1.out (by decide)) EP1.out (At.here (by first | exact om | exact At.below om (below_al (Below.refl _ _) _) | exact At.below (At.below om (below_al (Below.refl _ _) _)) (below_al (Below.refl _ _) _) | exact At.move om (fun _ _ => rfl) (Nat.le_refl _)))).mono ?_); rintro e w4 ⟨uf, Sf, rfl, of, lf, b4⟩; have HC4 := Lib.hid (hBB.out.trans (Chg.of_below b4)); (have om_4 := At.below (by first | exact om | exact At.below om (below_al (Below.refl _ _) _) | exact At.below (At.below om (below_al (Below.refl _ _) _)) (below_al (Below.refl _ _) _) | exact At.move om (fun _ _ => rfl) (Nat.le_refl _)) b4); obtain ⟨Af, cf, rfl⟩ := ownS_form of.here; (first | have hbxg := At.below_lt (box_new _ #[.bool false, .slice none 0 0] 28) b4 | have hbxg := At.below_lt early3 b4 | skip); (try (have hbxf := hbxg.1; have HGB := Lib.hid hbxg.2; clear hbxg)); (try (have cz0 := hbxf.here.cell 0 _ rfl; have fz0 := Lib.frozen_of_heap hbxf.here 0; have cz1 := hbxf.here.cell 1 _ rfl; have fz1 := Lib.frozen_of_heap hbxf.here 1)); have HBZ4 := Lib.hid hBB.out.size; clear hBB))
        all_goals (go_wp2_with fail; go_meet; first | exact newLocV_last of lf HBZ4.out (below_of_chg HC4.out) | exact newLocV_early2 hbxf.here of lf (by first | exact HC3.out.size | exact HCr.out.size | exact HC0.out.size) HGB.out (below_of_chg HC4.out))
      rename World => w3
      clear kr_c0 kr_c1 kr_c2 ks_c0 ks_c1 ks_c2
      obtain ⟨ga, csa, Sa, rfl, ka, oa, na, la, b3⟩ := hcut
      obtain ⟨Aa, ca, ea⟩ := ownS_form oa.here
      injection ea with ea
      subst ea
      have bb3 := Below.next bb2 b3
      replace kr := kr.below b3
      replace ks := ks.below b3
      replace ko := ko.below b3
      have kr_c0 := kr.here.cell 0 _ rfl
      have kr_c1 := kr.here.cell 1 _ rfl
      have kr_c2 := kr.here.cell 2 _ rfl
      have ks_c0 := ks.here.cell 0 _ rfl
      have ks_c1 := ks.here.cell 1 _ rfl
      have ks_c2 := ks.here.cell 2 _ rfl
      go_upto_region 8 with fail
      go_cut [7] (fun s wx => NewLocV 28 (fun v => OwnS v P2) w3 s wx)
      case first =>
        have HC0 := Lib.hid (show Chg [] w3 w3.drew from (Chg.refl _ _).drew1)
        have HCr := Lib.hid (show Chg [] w3 w3 from Chg.refl _ _)
        have KL := Lib.hid (show ∀ W, Chg [] w3 W → W.cell? ⟨w.heap.size, 0, none⟩ = some (.bool r.1.1) ∧ W.cell? ⟨w.heap.size, 1, none⟩ = some (.slice Ar r.1.2.length cr) ∧ W.cell? ⟨w.heap.size, 2, none⟩ = some (.slice Br r.2.length dr) ∧ W.cell? ⟨w.heap.size + 1, 0, none⟩ = some (.bool s.1.1) ∧ W.cell? ⟨w.heap.size + 1, 1, none⟩ = some (.slice As s.1.2.length cs) ∧ W.cell? ⟨w.heap.size + 1, 2, none⟩ = some (.slice Bs s.2.length ds) ∧ Hid (Chg [] w3 W) from fun W hc => ⟨(kr.chg hc (fun i hi hm => by simp at hm)).here.cell 0 _ rfl, (kr.chg hc (fun i hi hm => by simp at hm)).here.cell 1 _ rfl, (kr.chg hc (fun i hi hm => by simp at hm)).here.cell 2 _ rfl, (ks.chg hc (fun i hi hm => by simp at hm)).here.cell 0 _ rfl, (ks.chg hc (fun i hi hm => by simp at hm)).here.cell 1 _ rfl, (ks.chg hc (fun i hi hm => by simp at hm)).here.cell 2 _ rfl, Lib.hid hc⟩)
        have BBF := Lib.hid (show ∀ W, Chg [] w3 W → Below w.heap.size w W from fun W hc => below_chg bb3 hc bb3.size (fun i hi => by simp at hi))
        clear kr_c0 kr_c1 kr_c2 ks_c0 ks_c1 ks_c2
        go_region_held3 (fun W => W.cell? ⟨w.heap.size, 0, none⟩ = some (.bool r.1.1) ∧ W.cell? ⟨w.heap.size, 1, none⟩ = some (.slice Ar r.1.2.length cr) ∧ W.cell? ⟨w.heap.size, 2, none⟩ = some (.slice Br r.2.length dr) ∧ W.cell? ⟨w.heap.size + 1, 0, none⟩ = some (.bool s.1.1) ∧ W.cell? ⟨w.heap.size + 1, 1, none⟩ = some (.slice As s.1.2.length cs) ∧ W.cell? ⟨w.heap.size + 1, 2, none⟩ = some (.slice Bs s.2.length ds) ∧ Hid (Chg [] w3 W))
          ((refine KL.out _ ?_; (first | exact HC5.out | exact HC4.out | exact HCr.out | exact HC0.out | exact HC5.out.drew1 | exact HC4.out.drew1 | exact HCr.out.drew1 | exact HC0.out.drew1 | exact HC5.out.trans (Chg.of_below (below_al (Below.refl _ _) _)) | exact HC4.out.trans (Chg.of_below (below_al (Below.refl _ _) _)) | exact HCr.out.trans (Chg.of_below (below_al (Below.refl _ _) _)) | exact HC0.out.trans (Chg.of_below (below_al (Below.refl _ _) _)) | exact (Chg.setNew HC5.out (by first | exact HC5.out.size | exact HC4.out.size | exact HCr.out.size | exact HC0.out.size) _) | exact (Chg.setNew (Chg.setNew HC5.out (by first | exact HC5.out.size | exact HC4.out.size | exact HCr.out.size | exact HC0.out.size) _) (by first | exact HC5.out.size | exact HC4.out.size | exact HCr.out.size | exact HC0.out.size) _) | fail)))
          (first
            | (go_at_call 63; (have hBB := (‹_ ∧ _ ∧ _ ∧ _ ∧ _ ∧ _ ∧ Hid (Chg [] w3 _)›).2.2.2.2.2.2); (with_reducible refine (mulX_any _ _ (s.1.2) (r.2) X2 _ hns hdr ((okS_parts HPs.out.okn).1) (HPr.out.okd) EX2.out (OUs.out _ (BBF.out _ hBB.out)) (ODr.out _ (BBF.out _ hBB.out))).mono ?_); rintro e w4 ⟨um, Sm, rfl, om, lm, b4⟩; have HC4 := Lib.hid (hBB.out.trans (Chg.of_below b4)); obtain ⟨Em, em, rfl⟩ := own_len om.here; (first | (have early4 : At [w3.heap.size] (BoxAt w3.heap.size #[.bool false, .slice none 0 0] 28) w4 := At.below (box_new w3.drew _ _) b4) | (have early4 := At.below (box_new _ #[.bool false, .slice none 0 0] 28) b4) | (have early4 := At.below early3 b4) | skip); have HBZ4 := Lib.hid hBB.out.size; clear hBB)
            | (go_at_call 69; (have hBB := (‹_ ∧ _ ∧ _ ∧ _ ∧ _ ∧ _ ∧ Hid (Chg [] w3 _)›).2.2.2.2.2.2); (with_reducible refine (makeX_any _ _ X2 P2 _ (Nat.le_trans LX2.out (by decide)) EP2.out (At.here (by first | exact om | exact At.below om (below_al (Below.refl _ _) _) | exact At.below (At.below om (below_al (Below.refl _ _) _)) (below_al (Below.refl _ _) _) | exact At.move om (fun _ _ => rfl) (Nat.le_refl _)))).mono ?_); rintro e w5 ⟨uf, Sf, rfl, of, lf, b5⟩; have HC5 := Lib.hid (hBB.out.trans (Chg.of_below b5)); (have om_5 := At.below (by first | exact om | exact At.below om (below_al (Below.refl _ _) _) | exact At.below (At.below om (below_al (Below.refl _ _) _)) (below_al (Below.refl _ _) _) | exact At.move om (fun _ _ => rfl) (Nat.le_refl _)) b5); obtain ⟨Af, cf, rfl⟩ := ownS_form of.here; (first | have hbxg := At.below_lt (box_new _ #[.bool false, .slice none 0 0] 28) b5 | have hbxg := At.below_lt early4 b5 | skip); (try (have hbxf := hbxg.1; have HGB := Lib.hid hbxg.2; clear hbxg)); (try (have cz0 := hbxf.here.cell 0 _ rfl; have fz0 := Lib.frozen_of_heap hbxf.here 0; have cz1 := hbxf.here.cell 1 _ rfl; have fz1 := Lib.frozen_of_heap hbxf.here 1)); have HBZ5 := Lib.hid hBB.out.size; clear hBB))
        all_goals (go_wp2_with fail; go_meet; first | exact newLocV_last of lf HBZ5.out (below_of_chg HC5.out) | exact newLocV_early2 hbxf.here of lf (by first | exact HC4.out.size | exact HCr.out.size | exact HC0.out.size) HGB.out (below_of_chg HC5.out))
      rename World => w4
      clear kr_c0 kr_c1 kr_c2 ks_c0 ks_c1 ks_c2
      obtain ⟨gb, csb, Sb, rfl, kb, ob, nb, lb, b4⟩ := hcut
      obtain ⟨Ab, cb, eb⟩ := ownS_form ob.here
      injection eb with eb
      subst eb
      have bb4 := Below.next bb3 b4
      replace kr := kr.below b4
      replace ks := ks.below b4
      replace ko := ko.below b4
      replace ka := ka.below b4
      replace oa := oa.below b4
      have ka_c0 := ka.here.cell 0 _ rfl
      have ka_c1 := ka.here.cell 1 _ rfl
      have kb_c0 := kb.here.cell 0 _ rfl
      have kb_c1 := kb.here.cell 1 _ rfl
      go_wp2_with fail
      clear ka_c0 ka_c1 kb_c0 kb_c1
      refine (addX_any _ _ P1 P2 N _ VP1.out.1 VP2.out.1 EN.out oa.here ob.here).mono ?_
      rintro e w5 ⟨un, Sn, rfl, on, ln, b5⟩
      obtain ⟨An, cn, rfl⟩ := ownS_form on.here
      have bb5 := Below.next bb4 b5
      replace kr := kr.below b5
      replace ks := ks.below b5
      replace ko := ko.below b5
      replace ka := ka.below b5
      replace oa := oa.below b5
      replace kb := kb.below b5
      replace ob := ob.below b5
      have kn := box_new w5 #[.bool N.1, .slice An N.2.length cn] 28
      have bbx := Below.next bb5 (below_al (Below.refl w5.heap.size w5) (.cells #[.bool N.1, .slice An N.2.length cn] 28))
      have hko2 := ko.lt (w.heap.size + 1 + 1) (by simp)
      replace kr := kr.below (below_al (Below.refl w5.heap.size w5) (.cells #[.bool N.1, .slice An N.2.length cn] 28))
      replace ks := ks.below (below_al (Below.refl w5.heap.size w5) (.cells #[.bool N.1, .slice An N.2.length cn] 28))
      replace ko := ko.below (below_al (Below.refl w5.heap.size w5) (.cells #[.bool N.1, .slice An N.2.length cn] 28))
      replace on := on.below (below_al (Below.refl w5.heap.size w5) (.cells #[.bool N.1, .slice An N.2.length cn] 28))
      obtain ⟨Wn, hWn⟩ : ∃ Wn, Wn = w5.alloc (.cells #[.bool N.1, .slice An N.2.length cn] 28) := ⟨_, rfl⟩
      rw [← hWn] at kn bbx kr ks ko on
      have HWN := Lib.hid hWn
      have hWz : Wn.heap.size = w5.heap.size + 1 := by rw [hWn]; simp
      clear hWn
      have kr_c0 := kr.here.cell 0 _ rfl
      have kr_c1 := kr.here.cell 1 _ rfl
      have kr_c2 := kr.here.cell 2 _ rfl
      have ks_c0 := ks.here.cell 0 _ rfl
      have ks_c1 := ks.here.cell 1 _ rfl
      have ks_c2 := ks.here.cell 2 _ rfl
      have kn_c0 := kn.here.cell 0 _ rfl
      have kn_c1 := kn.here.cell 1 _ rfl
      go_wp2_with fail
      rw [← HWN.out]
      clear kr_c0 kr_c1 kr_c2 ks_c0 ks_c1 ks_c2 kn_c0 kn_c1
      have HC0 := Lib.hid (show Chg [w.heap.size + 1 + 1] Wn Wn.drew from (Chg.refl _ _).drew1)
      have HCr := Lib.hid (show Chg [w.heap.size + 1 + 1] Wn Wn from Chg.refl _ _)
      have KL := Lib.hid (show ∀ W, Chg [w.heap.size + 1 + 1] Wn W → W.cell? ⟨w.heap.size, 0, none⟩ = some (.bool r.1.1) ∧ W.cell? ⟨w.heap.size, 1, none⟩ = some (.slice Ar r.1.2.length cr) ∧ W.cell? ⟨w.heap.size, 2, none⟩ = some (.slice Br r.2.length dr) ∧ W.cell? ⟨w.heap.size + 1, 0, none⟩ = some (.bool s.1.1) ∧ W.cell? ⟨w.heap.size + 1, 1, none⟩ = some (.slice As s.1.2.length cs) ∧ W.cell? ⟨w.heap.size + 1, 2, none⟩ = some (.slice Bs s.2.length ds) ∧ W.cell? ⟨w5.heap.size, 0, none⟩ = some (.bool N.1) ∧ W.cell? ⟨w5.heap.size, 1, none⟩ = some (.slice An N.2.length cn) ∧ Hid (Chg [w.heap.size + 1 + 1] Wn W) from fun W hc => ⟨(kr.chg hc (fun i hi hm => by simp at hi hm; omega)).here.cell 0 _ rfl, (kr.chg hc (fun i hi hm => by simp at hi hm; omega)).here.cell 1 _ rfl, (kr.chg hc (fun i hi hm => by simp at hi hm; omega)).here.cell 2 _ rfl, (ks.chg hc (fun i hi hm => by simp at hi hm; omega)).here.cell 0 _ rfl, (ks.chg hc (fun i hi hm => by simp at hi hm; omega)).here.cell 1 _ rfl, (ks.chg hc (fun i hi hm => by simp at hi hm; omega)).here.cell 2 _ rfl, (kn.chg hc (fun i hi hm => by simp at hi hm; omega)).here.cell 0 _ rfl, (kn.chg hc (fun i hi hm => by simp at hi hm; omega)).here.cell 1 _ rfl, Lib.hid hc⟩)
      have BBF := Lib.hid (show ∀ W, Chg [w.heap.size + 1 + 1] Wn W → Below w.heap.size w W from fun W hc => below_chg bbx hc bbx.size (fun i hi => by simp at hi; omega))
      go_region_held3 (fun W => W.cell? ⟨w.heap.size, 0, none⟩ = some (.bool r.1.1) ∧ W.cell? ⟨w.heap.size, 1, none⟩ = some (.slice Ar r.1.2.length cr) ∧ W.cell? ⟨w.heap.size, 2, none⟩ = some (.slice Br r.2.length dr) ∧ W.cell? ⟨w.heap.size + 1, 0, none⟩ = some (.bool s.1.1) ∧ W.cell? ⟨w.heap.size + 1, 1, none⟩ = some (.slice As s.1.2.length cs) ∧ W.cell? ⟨w.heap.size + 1, 2, none⟩ = some (.slice Bs s.2.length ds) ∧ W.cell? ⟨w5.heap.size, 0, none⟩ = some (.bool N.1) ∧ W.cell? ⟨w5.heap.size, 1, none⟩ = some (.slice An N.2.length cn) ∧ Hid (Chg [w.heap.size + 1 + 1] Wn W))
        ((refine KL.out _ ?_; (first | exact HC7.out | exact HC6.out | exact HCr.out | exact HC0.out | exact HC7.out.drew1 | exact HC6.out.drew1 | exact HCr.out.drew1 | exact HC0.out.drew1 | exact HC7.out.trans (Chg.of_below (below_al (Below.refl _ _) _)) | exact HC6.out.trans (Chg.of_below (below_al (Below.refl _ _) _)) | exact HCr.out.trans (Chg.of_below (below_al (Below.refl _ _) _)) | exact HC0.out.trans (Chg.of_below (below_al (Below.refl _ _) _)) | exact (Chg.setCell HC7.out (by simp) _) | exact (Chg.setCell (Chg.setCell HC7.out (by simp) _) (by simp) _) | exact (Chg.setCell (Chg.setCell (Chg.setCell HC7.out (by simp) _) (by simp) _) (by simp) _) | fail)))
        (first
          | (go_at_call 63; (have hBB := (‹_ ∧ _ ∧ _ ∧ _ ∧ _ ∧ _ ∧ _ ∧ _ ∧ Hid (Chg [w.heap.size + 1 + 1] Wn _)›).2.2.2.2.2.2.2.2); (with_reducible refine (mulX_any _ _ (r.2) (s.2) X3 _ hdr hds (HPr.out.okd) (HPs.out.okd) EX3.out (ODr.out _ (BBF.out _ hBB.out)) (ODs.out _ (BBF.out _ hBB.out))).mono ?_); rintro e w6 ⟨um, Sm, rfl, om, lm, b6⟩; have HC6 := Lib.hid (hBB.out.trans (Chg.of_below b6)); (have ko_6 := At.below (by first | exact ko | exact At.below ko (below_al (Below.refl _ _) _) | exact At.below (At.below ko (below_al (Below.refl _ _) _)) (below_al (Below.refl _ _) _) | exact At.move ko (fun _ _ => rfl) (Nat.le_refl _)) b6); (have on_6 := At.below (by first | exact on | exact At.below on (below_al (Below.refl _ _) _) | exact At.below (At.below on (below_al (Below.refl _ _) _)) (below_al (Below.refl _ _) _) | exact At.move on (fun _ _ => rfl) (Nat.le_refl _)) b6); obtain ⟨Em, em, rfl⟩ := own_len om.here; have HBZ6 := Lib.hid hBB.out.size; clear hBB)
          | (go_at_call 151; (have hBB := (‹_ ∧ _ ∧ _ ∧ _ ∧ _ ∧ _ ∧ _ ∧ _ ∧ Hid (Chg [w.heap.size + 1 + 1] Wn _)›).2.2.2.2.2.2.2.2); (with_reducible refine (lowX_any _ _ _ N.2 (limbs X3) X4 X3 _ (Nat.le_trans L4.out (by decide)) (Nat.le_trans LX3.out (by decide)) N2.out rfl (ownS_open (At.here (by first | exact on_6 | exact At.below on_6 (below_al (Below.refl _ _) _) | exact At.below (At.below on_6 (below_al (Below.refl _ _) _)) (below_al (Below.refl _ _) _) | exact At.move on_6 (fun _ _ => rfl) (Nat.le_refl _)))) (At.here (by first | exact om | exact At.below om (below_al (Below.refl _ _) _) | exact At.below (At.below om (below_al (Below.refl _ _) _)) (below_al (Below.refl _ _) _) | exact At.move om (fun _ _ => rfl) (Nat.le_refl _)))).mono ?_); rintro e w7 ⟨uf, Sf, rfl, of, lf, b7⟩; have HC7 := Lib.hid (hBB.out.trans (Chg.of_below b7)); (have ko_7 := At.below (by first | exact ko_6 | exact At.below ko_6 (below_al (Below.refl _ _) _) | exact At.below (At.below ko_6 (below_al (Below.refl _ _) _)) (below_al (Below.refl _ _) _) | exact At.move ko_6 (fun _ _ => rfl) (Nat.le_refl _)) b7); (have on_7 := At.below (by first | exact on_6 | exact At.below on_6 (below_al (Below.refl _ _) _) | exact At.below (At.below on_6 (below_al (Below.refl _ _) _)) (below_al (Below.refl _ _) _) | exact At.move on_6 (fun _ _ => rfl) (Nat.le_refl _)) b7); (have om_7 := At.below (by first | exact om | exact At.below om (below_al (Below.refl _ _) _) | exact At.below (At.below om (below_al (Below.refl _ _) _)) (below_al (Below.refl _ _) _) | exact At.move om (fun _ _ => rfl) (Nat.le_refl _)) b7); obtain ⟨Af, cf, Bf, df, rfl⟩ := ownQ_form of.here; have cz0 := ko_7.here.cell 0 _ rfl; have fz0 := Lib.frozen_of_heap ko_7.here 0; have cz1 := ko_7.here.cell 1 _ rfl; have fz1 := Lib.frozen_of_heap ko_7.here 1; have cz2 := ko_7.here.cell 2 _ rfl; have fz2 := Lib.frozen_of_heap ko_7.here 2; have HBZ7 := Lib.hid hBB.out.size; clear hBB))
      have bb7 := BBF.out _ HC7.out
      replace kr := kr.chg HC7.out (fun i hi hm => by simp at hi hm; omega)
      replace ks := ks.chg HC7.out (fun i hi hm => by simp at hi hm; omega)
      replace ko := ko_7
      have on := on_7
      have om := om_7
      have HW := Lib.hid (newQb_at (r := w.heap.size + 1 + 1) (b := (lowQ N.1 X4 X3).2) of lf (by have := HBZ7.out; omega) (by omega) bb7)
      clear of ko kr ks kn on om
      go_wp2
      refine bodyPost_ret (v := .tuple #[.agg #[.bool _, .slice Af _ cf, .slice Bf _ df], .bool _]) (by simp [results, Tryz.results174, go_sem, cz0, cz1, cz2]; exact ⟨⟨rfl, rfl, rfl⟩, rfl⟩) rfl ?_
      rw [HV.out]
      exact HW.out
    · have oks' : okQ s = false := by simpa using oks
      have HV := Lib.hid (show addQ r s = (zeroQ, false) by unfold addQ; rw [if_neg (fun h => oks h.2)])
      rw [oks']
      clear oks oks'
      have ko_c0 := ko.here.cell 0 _ rfl
      have ko_c1 := ko.here.cell 1 _ rfl
      have ko_c2 := ko.here.cell 2 _ rfl
      have cz0 := ko.here.cell 0 _ rfl
      have fz0 := Lib.frozen_of_heap ko.here 0
      have cz1 := ko.here.cell 1 _ rfl
      have fz1 := Lib.frozen_of_heap ko.here 1
      have cz2 := ko.here.cell 2 _ rfl
      have fz2 := Lib.frozen_of_heap ko.here 2
      go_wp2
      refine bodyPost_ret (v := .tuple #[.agg #[.bool false, .slice none 0 0, .slice none 0 0], .bool false]) (by simp [results, Tryz.results174, go_sem, cz0, cz1, cz2]) rfl ?_
      rw [HV.out]
      first | exact newQb_zero _ bb2 | exact newQb_zero _ (below_set3 bb2 (by omega))
  · have okr' : okQ r = false := by simpa using okr
    have HV := Lib.hid (show addQ r s = (zeroQ, false) by unfold addQ; rw [if_neg (fun h => okr h.1)])
    rw [okr']
    clear okr okr'
    have ko_c0 := ko.here.cell 0 _ rfl
    have ko_c1 := ko.here.cell 1 _ rfl
    have ko_c2 := ko.here.cell 2 _ rfl
    have cz0 := ko.here.cell 0 _ rfl
    have fz0 := Lib.frozen_of_heap ko.here 0
    have cz1 := ko.here.cell 1 _ rfl
    have fz1 := Lib.frozen_of_heap ko.here 1
    have cz2 := ko.here.cell 2 _ rfl
    have fz2 := Lib.frozen_of_heap ko.here 2
    go_wp2
    refine bodyPost_ret (v := .tuple #[.agg #[.bool false, .slice none 0 0, .slice none 0 0], .bool false]) (by simp [results, Tryz.results174, go_sem, cz0, cz1, cz2]) rfl ?_
    rw [HV.out]
    first | exact newQb_zero _ bb1 | exact newQb_zero _ (below_set3 bb1 (by omega))
end Go.Proofs.YthfkdofnoomhaaaGreatDoor

namespace Go.Proofs.YthfkdofnoomhaaaGreatDoor
open Go.RowKit

/-- what was own ahead of an append to an empty literal is own behind it, apart from what the append gave -/
theorem after_append {wb w3 : World} {base L gg n k : Nat} {v : Value} {xs : List Value} (m cap : Nat) (o : wb.ownsRow base 3 1 v n xs) (hg : wb.grownBy w3 (Value.slice (some ⟨L, 0, none⟩) 0 k).ownBlock)
    (hat : (Value.slice (some ⟨L, 0, none⟩) 0 k).ownBlock = some gg ∨ gg = wb.heap.size) (hL : L < base ∨ ∀ g, v.ownBlock = some g → g < L) : w3.ownsRow base 3 1 v n xs ∧ ∀ g, v.ownBlock = some g → (Value.slice (some ⟨gg, 0, none⟩) (0 + m) cap).ownBlock ≠ some g := by
  refine ⟨own_apart o hg fun g q h1 h2 => ?_, fun g h1 h2 => ?_⟩
  · have h3 := Option.some.inj (show some L = some q from h2)
    have h4 := own_lt o h1
    rcases hL with h5 | h5
    · omega
    · have := h5 g h1
      omega
  · have h3 := Option.some.inj (show some gg = some g from h2)
    have h4 := own_lt o h1
    rcases hat with h6 | h6
    · have h7 := Option.some.inj (show some L = some gg from h6)
      rcases hL with h5 | h5
      · omega
      · have := h5 g h1
        omega
    · omega
set_option maxHeartbeats 2000000 in
set_option maxRecDepth 100000 in
theorem specRatNeg_any (vr : Value) (r : QI) (w : World) (hzr : szQ r ≤ 1048576) (hr : OwnQ vr r w) :
    Calls Tryz.prog 173 #[vr] w (PostQb (negQ r).1 (negQ r).2 w) := by
  obtain ⟨i0, hi0, hz0, hz1, hz2⟩ := info_parts intInfo
  have Hr := Lib.hid hr
  obtain ⟨Ar, cr, Br, dr, rfl⟩ := ownQ_form hr
  have OQr := Lib.hid (show ∀ W, Below w.heap.size w W → OwnQ (.agg #[.bool r.1.1, .slice Ar r.1.2.length cr, .slice Br r.2.length dr]) r W from fun W hb => OwnQ.below Hr.out hb)
  have OUr := Lib.hid (show ∀ W, Below w.heap.size w W → OwnI (.slice Ar r.1.2.length cr) r.1.2 W from fun W hb => (ownQ_open (OQr.out W hb)).2.1)
  have ODr := Lib.hid (show ∀ W, Below w.heap.size w W → OwnI (.slice Br r.2.length dr) r.2 W from fun W hb => (ownQ_open (OQr.out W hb)).2.2.1)
  have OSr := Lib.hid (show ∀ W, Below w.heap.size w W → OwnS (.agg #[.bool r.1.1, .slice Ar r.1.2.length cr]) r.1 W from fun W hb => OwnS.mk (OUr.out W hb))
  clear hr
  have hlr := szQ_len hzr
  have hl1r := hlr.1
  have hl2r := hlr.2
  clear hlr
  have bb0 : Below w.heap.size w ((w.alloc (.cells #[.bool r.1.1, .slice Ar r.1.2.length cr, .slice Br r.2.length dr] 34)).alloc (.cells #[.bool false, .slice none 0 0, .slice none 0 0] 34)) := below_al (below_al (Below.refl _ _) _) _
  have kr := (box_new w #[.bool r.1.1, .slice Ar r.1.2.length cr, .slice Br r.2.length dr] 34).below (below_al (Below.refl _ _) (.cells #[.bool false, .slice none 0 0, .slice none 0 0] 34))
  have ko := (box_new (w.alloc (.cells #[.bool r.1.1, .slice Ar r.1.2.length cr, .slice Br r.2.length dr] 34)) #[.bool false, .slice none 0 0, .slice none 0 0] 34)
  rw [show (w.alloc (.cells #[.bool r.1.1, .slice Ar r.1.2.length cr, .slice Br r.2.length dr] 34)).heap.size = w.heap.size + 1 by simp] at ko
  go_enter Tryz.func173, Tryz.ntmps173
  have kr_c0 := kr.here.cell 0 _ rfl
  have kr_c1 := kr.here.cell 1 _ rfl
  have kr_c2 := kr.here.cell 2 _ rfl
  go_wp2_with fail
  clear kr_c0 kr_c1 kr_c2
  refine (specRatOk_any _ r _ hzr (OQr.out _ bb0)).mono ?_
  rintro e w1 ⟨rfl, b1⟩
  have bb1 := Below.next bb0 b1
  replace kr := kr.below b1
  replace ko := ko.below b1
  by_cases okr : okQ r = true
  · rw [okr]
    have HOr := Lib.hid okr
    clear okr
    have HP := Lib.hid (parts_of HOr.out)
    have hp : 0 < r.2.length := (okQ_parts HOr.out).2.2.1
    have hd18 := HP.out.d50
    have HB1 := Lib.hid bb1
    have HONE := Lib.hid oneCells
    have HV := Lib.hid (show negQ r = ((negS r.1, r.2), true) by unfold negQ; rw [if_pos HOr.out])
    have kr_c0 := kr.here.cell 0 _ rfl
    have kr_c1 := kr.here.cell 1 _ rfl
    have kr_c2 := kr.here.cell 2 _ rfl
    have ko_c0 := ko.here.cell 0 _ rfl
    have ko_c1 := ko.here.cell 1 _ rfl
    have ko_c2 := ko.here.cell 2 _ rfl
    have ko_f0 := Lib.frozen_of_heap ko.here 0
    have ko_f1 := Lib.frozen_of_heap ko.here 1
    have ko_f2 := Lib.frozen_of_heap ko.here 2
    have hsz1 := bb1.size
    have hko := ko.lt (w.heap.size + 1) (by simp)
    go_wp2_with fail
    obtain ⟨gB, cB, eB, hgB0, hgB1, _⟩ := own_form (ODr.out _ bb1) hp
    injection eB with eB _ ecB
    subst eB ecB
    have HB0 := Lib.hid (show Below w1.heap.size w1 w1.drew from (Below.refl _ _).drew)
    have BBF := Lib.hid (show ∀ W, Below w1.heap.size w1 W → Below w.heap.size w W from fun W hb => Below.next bb1 hb)
    have KR := Lib.hid (show ∀ W, Below w1.heap.size w1 W → W.cell? ⟨w.heap.size, 0, none⟩ = some (.bool r.1.1) ∧ W.cell? ⟨w.heap.size, 1, none⟩ = some (.slice Ar r.1.2.length cr) ∧ W.cell? ⟨w.heap.size, 2, none⟩ = some (.slice (some ⟨gB, 0, none⟩) r.2.length dr) from
      fun W hb => ⟨(kr.below hb).here.cell 0 _ rfl, (kr.below hb).here.cell 1 _ rfl, (kr.below hb).here.cell 2 _ rfl⟩)
    have KO := Lib.hid (show ∀ W, Below w1.heap.size w1 W → At [w.heap.size + 1] (BoxAt (w.heap.size + 1) #[.bool false, .slice none 0 0, .slice none 0 0] 34) W from fun W hb => ko.below hb)
    have ODc := Lib.hid (show ∀ W, Below w1.heap.size w1 W → ∀ j u, (intsV r.2)[j]? = some u → W.cell? (Addr.add ⟨gB, 0, none⟩ j) = some u from fun W hb j u hj => by
      obtain ⟨A', c', e1, hA⟩ := (ODr.out W (BBF.out W hb)).row
      injection e1 with e1 _ _
      subst e1
      obtain ⟨a, ea, _, _, hc⟩ := hA j u hj
      cases ea
      exact hc)
    have HB1L := Lib.hid (show Below w1.heap.size w1 (w1.alloc (.cells #[] 3)).drew from (below_al (Below.refl _ _) _).drew)
    have LITLT := Lib.hid (show w1.heap.size < (w1.alloc (.cells #[] 3)).drew.heap.size by show w1.heap.size < (w1.alloc (.cells #[] 3)).heap.size; simp)
    have LIT := Lib.hid (fun W : World => World.ownsRow_made (base := w1.heap.size) (e := 3) (size := 1) W #[] 0)
    have hk0 : w.heap.size < w1.heap.size := by omega
    go_region_law (first
      | (refine step_append_lies _ (by rfl) _ _ _ (by rfl) w1.heap.size 3 i0 _ 1 8 Tryz.underlying22 hi0 hz0 hz1 hz2 rfl (by omega) _ 0 [] (by rfl) (by first | exact LIT.out wc HBC.out.size (Nat.zero_le _) rfl | exact own_below (LIT.out w1 (Nat.le_refl _) (Nat.zero_le _) rfl).drew bc) _ r.2.length dr (intsV r.2) (by rfl) (by simp [intsV]) (ODc.out _ (by first | exact HBC.out | exact below_al HBC.out _)) (HONE.out _) hp (by unfold maxLen; omega) (by omega) (by first | exact HBC.out.size | exact (below_al HBC.out _).size) _ (by rfl) ?_; intro gg cap w3 hown3 hg3 hat3 hlt3; have HBE := Lib.hid (show Below w1.heap.size w1 w3 from by first | exact HBC.out.grown hg3 HBC.out.size (fun k hk => by cases hk; exact Nat.le_refl _) | exact (below_al HBC.out _).grown hg3 (below_al HBC.out _).size (fun k hk => by cases hk; exact HBC.out.size)); have HOE := Lib.hid hown3; (first | (have hzz := after_append r.2.length cap (own_alloc HOC.out (.cells #[] 3)) hg3 hat3 (.inr fun g hg => (own_lt HOC.out hg).2)) | (have hzz := after_append r.2.length cap HOC.out hg3 hat3 (.inl LITLT.out))); obtain ⟨hoc3, hap3⟩ := hzz; have HOC3 := Lib.hid hoc3; have HAP := Lib.hid hap3; clear hoc3 hap3; (have e_r0 := (KR.out _ HBE.out).1); (have e_r1 := (KR.out _ HBE.out).2.1); (have e_r2 := (KR.out _ HBE.out).2.2); (have e_o0 := (KO.out _ HBE.out).here.cell 0 _ rfl); (have e_o1 := (KO.out _ HBE.out).here.cell 1 _ rfl); (have e_o2 := (KO.out _ HBE.out).here.cell 2 _ rfl); (have e_f0 := Lib.frozen_of_heap (KO.out _ HBE.out).here 0); (have e_f1 := Lib.frozen_of_heap (KO.out _ HBE.out).here 1); (have e_f2 := Lib.frozen_of_heap (KO.out _ HBE.out).here 2); clear hown3 hg3 hat3 hlt3)
      | (go_simp; go_at_call 210; (first | (have hBB := HB0.out; with_reducible refine (specIntNeg_any _ r.1 _ hl1r (OSr.out _ (BBF.out _ hBB))).mono ?_) | (have hBB := HB1L.out; with_reducible refine (specIntNeg_any _ r.1 _ hl1r (OSr.out _ (BBF.out _ hBB))).mono ?_)); rintro e wc ⟨uc, rfl, oc, bc⟩; obtain ⟨Ac, cc, rfl⟩ := own_len oc; have HOC := Lib.hid oc; have HBC := Lib.hid (Below.next hBB bc); (have c_l0 : w.heap.size < wc.heap.size := by have := HBC.out.size; omega); (have c_l1 : w.heap.size + 1 < wc.heap.size := by have := HBC.out.size; omega); (have c_r0 := (KR.out _ HBC.out).1); (have c_r1 := (KR.out _ HBC.out).2.1); (have c_r2 := (KR.out _ HBC.out).2.2); (have c_o0 := (KO.out _ HBC.out).here.cell 0 _ rfl); (have c_o1 := (KO.out _ HBC.out).here.cell 1 _ rfl); (have c_o2 := (KO.out _ HBC.out).here.cell 2 _ rfl); (have c_f0 := Lib.frozen_of_heap (KO.out _ HBC.out).here 0); (have c_f1 := Lib.frozen_of_heap (KO.out _ HBC.out).here 1); (have c_f2 := Lib.frozen_of_heap (KO.out _ HBC.out).here 2); clear oc hBB))
    all_goals
      have HR := Lib.hid (newQb_ret (x := (negS r.1, r.2)) (b := true) (KO.out _ HBE.out).here HOC3.out (by have h := HOE.out; simp only [Nat.zero_add, List.nil_append] at h; exact h) (by have h := HAP.out; simp only [Nat.zero_add] at h; exact h) (Nat.le_trans bb1.size (by first | exact HB0.out.size | exact HB1L.out.size)) bb1.size (Nat.le_add_right _ 1) (BBF.out _ HBE.out))
      clear HOE HOC3 HAP HBE HBC HOC HB0 HB1L LIT ODc KO KR BBF OQr OUr ODr OSr
      go_wp2
      refine bodyPost_ret (v := .tuple #[.agg #[.bool _, .slice Ac _ cc, .slice _ _ cap], .bool true]) (by simp [results, Tryz.results173, go_sem, e_o0, e_o1, e_o2]; exact ⟨rfl, rfl, rfl, rfl⟩) rfl ?_
      rw [HV.out]
      exact HR.out
  · have okr' : okQ r = false := by simpa using okr
    have HV := Lib.hid (show negQ r = (zeroQ, false) by unfold negQ; rw [if_neg okr])
    rw [okr']
    clear okr okr'
    have cz0 := ko.here.cell 0 _ rfl
    have fz0 := Lib.frozen_of_heap ko.here 0
    have cz1 := ko.here.cell 1 _ rfl
    have fz1 := Lib.frozen_of_heap ko.here 1
    have cz2 := ko.here.cell 2 _ rfl
    have fz2 := Lib.frozen_of_heap ko.here 2
    go_wp2
    refine bodyPost_ret (v := .tuple #[.agg #[.bool false, .slice none 0 0, .slice none 0 0], .bool false]) (by simp [results, Tryz.results173, go_sem, cz0, cz1, cz2]) rfl ?_
    rw [HV.out]
    first | exact newQb_zero _ bb1 | exact newQb_zero _ (below_set3 bb1 (by omega))
end Go.Proofs.YthfkdofnoomhaaaGreatDoor

namespace Go.Proofs.YthfkdofnoomhaaaGreatDoor
open Go.RowKit

set_option maxHeartbeats 1000000 in
set_option maxRecDepth 100000 in
theorem l06Away_0 (vq vr vd : Value) (neg : Bool) (Q R D : Nat) (w : World) (_ : (limbs Q).length ≤ 50) (hr : (limbs R).length ≤ 18) (hd : (limbs D).length ≤ 18) (oq : OwnI vq (limbs Q) w) (or_ : OwnI vr (limbs R) w) (od : OwnI vd (limbs D) w) :
    Calls Tryz.prog 66 #[.bool neg, vq, vr, vd, .int .i64 0] w (Postb (awayB neg Q R D 0) w) := by
  obtain ⟨Aq, cq, rfl⟩ := own_len oq
  obtain ⟨Ar, cr, rfl⟩ := own_len or_
  obtain ⟨Ad, cd, rfl⟩ := own_len od
  have HOQ := Lib.hid oq
  have HOR := Lib.hid or_
  have HOD := Lib.hid od
  have HTW := Lib.hid (twice_len hr)
  obtain ⟨c, hc⟩ : ∃ c, cmpI ((R : Int) + R + 0) D = c := ⟨_, rfl⟩
  have HC := Lib.hid hc
  have HA := Lib.hid (away_cmp neg Q R D hc)
  have h3 : c = -1 ∨ c = 0 ∨ c = 1 := by rw [← hc]; exact cmp_three _ _
  clear hc oq or_ od
  go_enter Tryz.func66, Tryz.ntmps66
  go_wp2_with fail
  refine (specAdd_any _ _ (limbs R) (limbs R) 0 _ 0 _ _ (by omega) (by omega) (Nat.le_refl _) (Nat.le_refl _) (limbs_digN R) (limbs_digN R) HOR.out.row HOR.out.row).mono ?_
  rintro e w1 ⟨v1, rfl, o1, b1⟩
  obtain ⟨A1, c1, rfl⟩ := own_len o1
  have HO1 := Lib.hid o1
  clear o1
  go_wp2_with fail
  refine (specCmp_any _ _ (addL (limbs R) (limbs R) 0) (limbs D) _ _ _ _ _ (by have := HTW.out.1; omega) (by omega) ⟨HTW.out.2.1, HTW.out.2.2.1⟩ ⟨limbs_digN D, limbs_lastN D⟩ (Row.of_own HO1.out) (HOD.out.belowI b1).row).mono ?_
  rintro e w2 ⟨rfl, q, rfl⟩
  rw [HTW.out.2.2.2, limbs_val, HC.out]
  have bb := below_drewN b1 q
  clear h3
  go_wp2
  go_ret
  exact ⟨ret_bool (rfl), bb⟩
set_option maxHeartbeats 1000000 in
set_option maxRecDepth 100000 in
theorem l06Away_1 (vq vr vd : Value) (neg : Bool) (Q R D : Nat) (w : World) (_ : (limbs Q).length ≤ 50) (hr : (limbs R).length ≤ 18) (hd : (limbs D).length ≤ 18) (oq : OwnI vq (limbs Q) w) (or_ : OwnI vr (limbs R) w) (od : OwnI vd (limbs D) w) :
    Calls Tryz.prog 66 #[.bool neg, vq, vr, vd, .int .i64 1] w (Postb (awayB neg Q R D 1) w) := by
  obtain ⟨Aq, cq, rfl⟩ := own_len oq
  obtain ⟨Ar, cr, rfl⟩ := own_len or_
  obtain ⟨Ad, cd, rfl⟩ := own_len od
  have HOQ := Lib.hid oq
  have HOR := Lib.hid or_
  have HOD := Lib.hid od
  have HTW := Lib.hid (twice_len hr)
  obtain ⟨c, hc⟩ : ∃ c, cmpI ((R : Int) + R + 0) D = c := ⟨_, rfl⟩
  have HC := Lib.hid hc
  have HA := Lib.hid (away_cmp neg Q R D hc)
  have h3 : c = -1 ∨ c = 0 ∨ c = 1 := by rw [← hc]; exact cmp_three _ _
  clear hc oq or_ od
  go_enter Tryz.func66, Tryz.ntmps66
  go_wp2_with fail
  refine (specAdd_any _ _ (limbs R) (limbs R) 0 _ 0 _ _ (by omega) (by omega) (Nat.le_refl _) (Nat.le_refl _) (limbs_digN R) (limbs_digN R) HOR.out.row HOR.out.row).mono ?_
  rintro e w1 ⟨v1, rfl, o1, b1⟩
  obtain ⟨A1, c1, rfl⟩ := own_len o1
  have HO1 := Lib.hid o1
  clear o1
  go_wp2_with fail
  refine (specCmp_any _ _ (addL (limbs R) (limbs R) 0) (limbs D) _ _ _ _ _ (by have := HTW.out.1; omega) (by omega) ⟨HTW.out.2.1, HTW.out.2.2.1⟩ ⟨limbs_digN D, limbs_lastN D⟩ (Row.of_own HO1.out) (HOD.out.belowI b1).row).mono ?_
  rintro e w2 ⟨rfl, q, rfl⟩
  rw [HTW.out.2.2.2, limbs_val, HC.out]
  have bb := below_drewN b1 q
  clear h3
  go_wp2
  go_ret
  exact ⟨ret_bool (rfl), bb⟩
set_option maxHeartbeats 1000000 in
set_option maxRecDepth 100000 in
theorem l06Away_2 (vq vr vd : Value) (neg : Bool) (Q R D : Nat) (w : World) (_ : (limbs Q).length ≤ 50) (hr : (limbs R).length ≤ 18) (hd : (limbs D).length ≤ 18) (oq : OwnI vq (limbs Q) w) (or_ : OwnI vr (limbs R) w) (od : OwnI vd (limbs D) w) :
    Calls Tryz.prog 66 #[.bool neg, vq, vr, vd, .int .i64 2] w (Postb (awayB neg Q R D 2) w) := by
  obtain ⟨Aq, cq, rfl⟩ := own_len oq
  obtain ⟨Ar, cr, rfl⟩ := own_len or_
  obtain ⟨Ad, cd, rfl⟩ := own_len od
  have HOQ := Lib.hid oq
  have HOR := Lib.hid or_
  have HOD := Lib.hid od
  have HTW := Lib.hid (twice_len hr)
  obtain ⟨c, hc⟩ : ∃ c, cmpI ((R : Int) + R + 0) D = c := ⟨_, rfl⟩
  have HC := Lib.hid hc
  have HA := Lib.hid (away_cmp neg Q R D hc)
  have h3 : c = -1 ∨ c = 0 ∨ c = 1 := by rw [← hc]; exact cmp_three _ _
  clear hc oq or_ od
  go_enter Tryz.func66, Tryz.ntmps66
  go_wp2_with fail
  refine (specAdd_any _ _ (limbs R) (limbs R) 0 _ 0 _ _ (by omega) (by omega) (Nat.le_refl _) (Nat.le_refl _) (limbs_digN R) (limbs_digN R) HOR.out.row HOR.out.row).mono ?_
  rintro e w1 ⟨v1, rfl, o1, b1⟩
  obtain ⟨A1, c1, rfl⟩ := own_len o1
  have HO1 := Lib.hid o1
  clear o1
  go_wp2_with fail
  refine (specCmp_any _ _ (addL (limbs R) (limbs R) 0) (limbs D) _ _ _ _ _ (by have := HTW.out.1; omega) (by omega) ⟨HTW.out.2.1, HTW.out.2.2.1⟩ ⟨limbs_digN D, limbs_lastN D⟩ (Row.of_own HO1.out) (HOD.out.belowI b1).row).mono ?_
  rintro e w2 ⟨rfl, q, rfl⟩
  rw [HTW.out.2.2.2, limbs_val, HC.out]
  have bb := below_drewN b1 q
  clear h3
  go_wp2
  go_ret
  exact ⟨ret_bool (rfl), bb⟩
set_option maxHeartbeats 1000000 in
set_option maxRecDepth 100000 in
theorem l06Away_3 (vq vr vd : Value) (neg : Bool) (Q R D : Nat) (w : World) (_ : (limbs Q).length ≤ 50) (hr : (limbs R).length ≤ 18) (hd : (limbs D).length ≤ 18) (oq : OwnI vq (limbs Q) w) (or_ : OwnI vr (limbs R) w) (od : OwnI vd (limbs D) w) :
    Calls Tryz.prog 66 #[.bool neg, vq, vr, vd, .int .i64 3] w (Postb (awayB neg Q R D 3) w) := by
  obtain ⟨Aq, cq, rfl⟩ := own_len oq
  obtain ⟨Ar, cr, rfl⟩ := own_len or_
  obtain ⟨Ad, cd, rfl⟩ := own_len od
  have HOQ := Lib.hid oq
  have HOR := Lib.hid or_
  have HOD := Lib.hid od
  have HTW := Lib.hid (twice_len hr)
  obtain ⟨c, hc⟩ : ∃ c, cmpI ((R : Int) + R + 0) D = c := ⟨_, rfl⟩
  have HC := Lib.hid hc
  have HA := Lib.hid (away_cmp neg Q R D hc)
  have h3 : c = -1 ∨ c = 0 ∨ c = 1 := by rw [← hc]; exact cmp_three _ _
  clear hc oq or_ od
  go_enter Tryz.func66, Tryz.ntmps66
  go_wp2_with fail
  refine (specAdd_any _ _ (limbs R) (limbs R) 0 _ 0 _ _ (by omega) (by omega) (Nat.le_refl _) (Nat.le_refl _) (limbs_digN R) (limbs_digN R) HOR.out.row HOR.out.row).mono ?_
  rintro e w1 ⟨v1, rfl, o1, b1⟩
  obtain ⟨A1, c1, rfl⟩ := own_len o1
  have HO1 := Lib.hid o1
  clear o1
  go_wp2_with fail
  refine (specCmp_any _ _ (addL (limbs R) (limbs R) 0) (limbs D) _ _ _ _ _ (by have := HTW.out.1; omega) (by omega) ⟨HTW.out.2.1, HTW.out.2.2.1⟩ ⟨limbs_digN D, limbs_lastN D⟩ (Row.of_own HO1.out) (HOD.out.belowI b1).row).mono ?_
  rintro e w2 ⟨rfl, q, rfl⟩
  rw [HTW.out.2.2.2, limbs_val, HC.out]
  have bb := below_drewN b1 q
  clear h3
  go_wp2
  go_ret
  exact ⟨ret_bool (rfl), bb⟩
set_option maxHeartbeats 1000000 in
set_option maxRecDepth 100000 in
theorem l06Away_4 (vq vr vd : Value) (neg : Bool) (Q R D : Nat) (w : World) (_ : (limbs Q).length ≤ 50) (hr : (limbs R).length ≤ 18) (hd : (limbs D).length ≤ 18) (oq : OwnI vq (limbs Q) w) (or_ : OwnI vr (limbs R) w) (od : OwnI vd (limbs D) w) :
    Calls Tryz.prog 66 #[.bool neg, vq, vr, vd, .int .i64 4] w (Postb (awayB neg Q R D 4) w) := by
  obtain ⟨Aq, cq, rfl⟩ := own_len oq
  obtain ⟨Ar, cr, rfl⟩ := own_len or_
  obtain ⟨Ad, cd, rfl⟩ := own_len od
  have HOQ := Lib.hid oq
  have HOR := Lib.hid or_
  have HOD := Lib.hid od
  have HTW := Lib.hid (twice_len hr)
  obtain ⟨c, hc⟩ : ∃ c, cmpI ((R : Int) + R + 0) D = c := ⟨_, rfl⟩
  have HC := Lib.hid hc
  have HA := Lib.hid (away_cmp neg Q R D hc)
  have h3 : c = -1 ∨ c = 0 ∨ c = 1 := by rw [← hc]; exact cmp_three _ _
  clear hc oq or_ od
  go_enter Tryz.func66, Tryz.ntmps66
  go_wp2_with fail
  refine (specAdd_any _ _ (limbs R) (limbs R) 0 _ 0 _ _ (by omega) (by omega) (Nat.le_refl _) (Nat.le_refl _) (limbs_digN R) (limbs_digN R) HOR.out.row HOR.out.row).mono ?_
  rintro e w1 ⟨v1, rfl, o1, b1⟩
  obtain ⟨A1, c1, rfl⟩ := own_len o1
  have HO1 := Lib.hid o1
  clear o1
  go_wp2_with fail
  refine (specCmp_any _ _ (addL (limbs R) (limbs R) 0) (limbs D) _ _ _ _ _ (by have := HTW.out.1; omega) (by omega) ⟨HTW.out.2.1, HTW.out.2.2.1⟩ ⟨limbs_digN D, limbs_lastN D⟩ (Row.of_own HO1.out) (HOD.out.belowI b1).row).mono ?_
  rintro e w2 ⟨rfl, q, rfl⟩
  rw [HTW.out.2.2.2, limbs_val, HC.out]
  have bb := below_drewN b1 q
  clear h3
  go_wp2
  go_ret
  exact ⟨ret_bool HA.out.1.symm, bb⟩
set_option maxHeartbeats 1000000 in
set_option maxRecDepth 100000 in
theorem l06Away_5 (vq vr vd : Value) (neg : Bool) (Q R D : Nat) (w : World) (_ : (limbs Q).length ≤ 50) (hr : (limbs R).length ≤ 18) (hd : (limbs D).length ≤ 18) (oq : OwnI vq (limbs Q) w) (or_ : OwnI vr (limbs R) w) (od : OwnI vd (limbs D) w) :
    Calls Tryz.prog 66 #[.bool neg, vq, vr, vd, .int .i64 5] w (Postb (awayB neg Q R D 5) w) := by
  obtain ⟨Aq, cq, rfl⟩ := own_len oq
  obtain ⟨Ar, cr, rfl⟩ := own_len or_
  obtain ⟨Ad, cd, rfl⟩ := own_len od
  have HOQ := Lib.hid oq
  have HOR := Lib.hid or_
  have HOD := Lib.hid od
  have HTW := Lib.hid (twice_len hr)
  obtain ⟨c, hc⟩ : ∃ c, cmpI ((R : Int) + R + 0) D = c := ⟨_, rfl⟩
  have HC := Lib.hid hc
  have HA := Lib.hid (away_cmp neg Q R D hc)
  have h3 : c = -1 ∨ c = 0 ∨ c = 1 := by rw [← hc]; exact cmp_three _ _
  clear hc oq or_ od
  go_enter Tryz.func66, Tryz.ntmps66
  go_wp2_with fail
  refine (specAdd_any _ _ (limbs R) (limbs R) 0 _ 0 _ _ (by omega) (by omega) (Nat.le_refl _) (Nat.le_refl _) (limbs_digN R) (limbs_digN R) HOR.out.row HOR.out.row).mono ?_
  rintro e w1 ⟨v1, rfl, o1, b1⟩
  obtain ⟨A1, c1, rfl⟩ := own_len o1
  have HO1 := Lib.hid o1
  clear o1
  go_wp2_with fail
  refine (specCmp_any _ _ (addL (limbs R) (limbs R) 0) (limbs D) _ _ _ _ _ (by have := HTW.out.1; omega) (by omega) ⟨HTW.out.2.1, HTW.out.2.2.1⟩ ⟨limbs_digN D, limbs_lastN D⟩ (Row.of_own HO1.out) (HOD.out.belowI b1).row).mono ?_
  rintro e w2 ⟨rfl, q, rfl⟩
  rw [HTW.out.2.2.2, limbs_val, HC.out]
  have bb := below_drewN b1 q
  clear h3
  go_wp2
  go_ret
  exact ⟨ret_bool HA.out.2.1.symm, bb⟩
set_option maxHeartbeats 1000000 in
set_option maxRecDepth 100000 in
theorem l06Away_6 (vq vr vd : Value) (neg : Bool) (Q R D : Nat) (w : World) (hq : (limbs Q).length ≤ 50) (hr : (limbs R).length ≤ 18) (hd : (limbs D).length ≤ 18) (oq : OwnI vq (limbs Q) w) (or_ : OwnI vr (limbs R) w) (od : OwnI vd (limbs D) w) :
    Calls Tryz.prog 66 #[.bool neg, vq, vr, vd, .int .i64 6] w (Postb (awayB neg Q R D 6) w) := by
  obtain ⟨Aq, cq, rfl⟩ := own_len oq
  obtain ⟨Ar, cr, rfl⟩ := own_len or_
  obtain ⟨Ad, cd, rfl⟩ := own_len od
  have HOQ := Lib.hid oq
  have HOR := Lib.hid or_
  have HOD := Lib.hid od
  have HTW := Lib.hid (twice_len hr)
  obtain ⟨c, hc⟩ : ∃ c, cmpI ((R : Int) + R + 0) D = c := ⟨_, rfl⟩
  have HC := Lib.hid hc
  have HA := Lib.hid (away_cmp neg Q R D hc)
  have h3 : c = -1 ∨ c = 0 ∨ c = 1 := by rw [← hc]; exact cmp_three _ _
  clear hc oq or_ od
  go_enter Tryz.func66, Tryz.ntmps66
  go_wp2_with fail
  refine (specAdd_any _ _ (limbs R) (limbs R) 0 _ 0 _ _ (by omega) (by omega) (Nat.le_refl _) (Nat.le_refl _) (limbs_digN R) (limbs_digN R) HOR.out.row HOR.out.row).mono ?_
  rintro e w1 ⟨v1, rfl, o1, b1⟩
  obtain ⟨A1, c1, rfl⟩ := own_len o1
  have HO1 := Lib.hid o1
  clear o1
  go_wp2_with fail
  refine (specCmp_any _ _ (addL (limbs R) (limbs R) 0) (limbs D) _ _ _ _ _ (by have := HTW.out.1; omega) (by omega) ⟨HTW.out.2.1, HTW.out.2.2.1⟩ ⟨limbs_digN D, limbs_lastN D⟩ (Row.of_own HO1.out) (HOD.out.belowI b1).row).mono ?_
  rintro e w2 ⟨rfl, q, rfl⟩
  rw [HTW.out.2.2.2, limbs_val, HC.out]
  have bb := below_drewN b1 q
  rcases h3 with rfl | rfl | rfl
  · go_wp2
    go_ret
    exact ⟨ret_bool (HA.out.2.2.trans (by simp)).symm, bb⟩
  · have he : decide (Q % 2 = 1) = !decide (Q % 2 = 0) := by rcases Nat.mod_two_eq_zero_or_one Q with h | h <;> rw [h] <;> rfl
    have HV := Lib.hid (show awayB neg Q R D 6 = !decide (Q % 2 = 0) by rw [HA.out.2.2, he]; rfl)
    clear he HA
    go_wp2_with fail
    refine (specNatEven_any _ (limbs Q) 0 _ _ (by omega) (HOQ.out.belowI (below_drewN b1 q)).row).mono ?_
    rintro e w3 ⟨rfl, rfl⟩
    rw [even_limbs hq]
    generalize decide (Q % 2 = 0) = b at *
    cases b
    · go_wp2
      go_ret
      exact ⟨ret_bool HV.out.symm, bb⟩
    · go_wp2
      go_ret
      exact ⟨ret_bool HV.out.symm, bb⟩
  · go_wp2
    go_ret
    exact ⟨ret_bool (HA.out.2.2.trans (by simp)).symm, bb⟩
theorem l06Away_any (vq vr vd : Value) (neg : Bool) (Q R D : Nat) (w : World) (hq : (limbs Q).length ≤ 50) (hr : (limbs R).length ≤ 18) (hd : (limbs D).length ≤ 18) (oq : OwnI vq (limbs Q) w) (or_ : OwnI vr (limbs R) w) (od : OwnI vd (limbs D) w) (m : Int) (hm : modeB m = true) :
    Calls Tryz.prog 66 #[.bool neg, vq, vr, vd, .int .i64 m] w (Postb (awayB neg Q R D m) w) := by
  rcases modeB_cases hm with rfl | rfl | rfl | rfl | rfl | rfl | rfl
  · exact l06Away_0 vq vr vd neg Q R D w hq hr hd oq or_ od
  · exact l06Away_1 vq vr vd neg Q R D w hq hr hd oq or_ od
  · exact l06Away_2 vq vr vd neg Q R D w hq hr hd oq or_ od
  · exact l06Away_3 vq vr vd neg Q R D w hq hr hd oq or_ od
  · exact l06Away_4 vq vr vd neg Q R D w hq hr hd oq or_ od
  · exact l06Away_5 vq vr vd neg Q R D w hq hr hd oq or_ od
  · exact l06Away_6 vq vr vd neg Q R D w hq hr hd oq or_ od
set_option maxHeartbeats 2000000 in
set_option maxRecDepth 100000 in
theorem l06Round_any (vr : Value) (r : QI) (m : Int) (w : World) (ok : okQ r = true) (hm : modeB m = true) (hr : OwnQ vr r w) :
    Calls Tryz.prog 119 #[vr, .int .i64 m] w (NewV (fun u => OwnS u (roundS r m)) w) := by
  have Hr := Lib.hid hr
  obtain ⟨Ar, cr, Br, dr, rfl⟩ := ownQ_form hr
  have OQr := Lib.hid (show ∀ W, Below w.heap.size w W → OwnQ (.agg #[.bool r.1.1, .slice Ar r.1.2.length cr, .slice Br r.2.length dr]) r W from fun W hb => OwnQ.below Hr.out hb)
  have OUr := Lib.hid (show ∀ W, Below w.heap.size w W → OwnI (.slice Ar r.1.2.length cr) r.1.2 W from fun W hb => (ownQ_open (OQr.out W hb)).2.1)
  have ODr := Lib.hid (show ∀ W, Below w.heap.size w W → OwnI (.slice Br r.2.length dr) r.2 W from fun W hb => (ownQ_open (OQr.out W hb)).2.2.1)
  have OSr := Lib.hid (show ∀ W, Below w.heap.size w W → OwnS (.agg #[.bool r.1.1, .slice Ar r.1.2.length cr]) r.1 W from fun W hb => OwnS.mk (OUr.out W hb))
  clear hr
  have HP := Lib.hid (parts_of ok)
  have HOK := Lib.hid ok
  have HM := Lib.hid hm
  clear ok hm
  have bb0 : Below w.heap.size w ((w.alloc (.cells #[.bool r.1.1, .slice Ar r.1.2.length cr, .slice Br r.2.length dr] 34)).alloc (.cells #[.bool false, .slice none 0 0] 28)) := below_al (below_al (Below.refl _ _) _) _
  have kr := (box_new w #[.bool r.1.1, .slice Ar r.1.2.length cr, .slice Br r.2.length dr] 34).below (below_al (Below.refl _ _) (.cells #[.bool false, .slice none 0 0] 28))
  have ko := (box_new (w.alloc (.cells #[.bool r.1.1, .slice Ar r.1.2.length cr, .slice Br r.2.length dr] 34)) #[.bool false, .slice none 0 0] 28)
  rw [show (w.alloc (.cells #[.bool r.1.1, .slice Ar r.1.2.length cr, .slice Br r.2.length dr] 34)).heap.size = w.heap.size + 1 by simp] at ko
  have HKO := Lib.hid (ko.lt (w.heap.size + 1) (by simp))
  obtain ⟨Q, hQ⟩ : ∃ Q, topN r / denQ r = Q := ⟨_, rfl⟩
  obtain ⟨R, hR⟩ : ∃ R, topN r % denQ r = R := ⟨_, rfl⟩
  have EQ := Lib.hid hQ
  have ER := Lib.hid hR
  have hql : (limbs Q).length ≤ 18 := by rw [← hQ]; exact quot_len HOK.out
  have hrl : (limbs R).length ≤ 18 := by rw [← hR]; exact rest_len HOK.out
  have hnl := HP.out.n50
  have hdl := HP.out.d50
  have hdv : ∀ W, Below w.heap.size w W → Calls Tryz.prog 65 #[.slice Ar r.1.2.length cr, .slice Br r.2.length dr] W (TwoRows (limbs Q) (limbs R) W) := fun W hb => by
    have h := specDiv_any _ _ r.1.2 r.2 0 _ 0 _ W (by omega) (by omega) (okQ_parts HOK.out).2.2.1 (Nat.le_refl _) (Nat.le_refl _) (natOk_parts (okS_parts HP.out.okn).1).1 ⟨(natOk_parts HP.out.okd).1, (natOk_parts HP.out.okd).2.2⟩ (OUr.out _ hb).row (ODr.out _ hb).row
    rw [quot_of HOK.out, rest_of HOK.out, hQ, hR] at h
    exact h
  have HDV := Lib.hid hdv
  clear hdv hQ hR
  go_enter Tryz.func119, Tryz.ntmps119
  have kr_c0 := kr.here.cell 0 _ rfl
  have kr_c1 := kr.here.cell 1 _ rfl
  have kr_c2 := kr.here.cell 2 _ rfl
  go_wp2_with fail
  clear kr_c0 kr_c1 kr_c2
  refine (HDV.out _ bb0).mono ?_
  rintro e w1 ⟨vq, vr_, rfl, oq0, or0, hqr, b1⟩
  obtain ⟨Aq, cq, rfl⟩ := own_len oq0
  obtain ⟨As, cs, rfl⟩ := own_len or0
  have oq := own_at' oq0
  have os := own_at' or0
  clear oq0 or0 hqr
  have bb1 := Below.next bb0 b1
  replace kr := kr.below b1
  replace ko := ko.below b1
  by_cases h0 : R = 0
  · have HV := Lib.hid (show mkS r.1.1 (trimL (limbs Q)) = roundS r m by rw [trimL_limbs, ← EQ.out]; exact round_plain (.inl (ER.out.trans h0)))
    subst h0
    rw [show (limbs 0).length = 0 by rw [limbs_zero]; rfl] at *
    clear os
    have kr_c0 := kr.here.cell 0 _ rfl
    have kr_c1 := kr.here.cell 1 _ rfl
    have kr_c2 := kr.here.cell 2 _ rfl
    go_wp2_with fail
    clear kr_c0 kr_c1 kr_c2
    refine ((l04Make_any _ _ (limbs Q) _ _ (by omega) (At.here oq)).mono fun _ _ h => roundVS_eq HV.out (NewS.newV h)).mono ?_
    rintro e w2 ⟨uf, Sf, rfl, of, lf, b2⟩
    obtain ⟨Af, cf, rfl⟩ := ownS_form of.here
    have bb2 := Below.next bb1 b2
    replace kr := kr.below b2
    replace ko := ko.below b2
    replace oq := oq.below b2
    have HW := Lib.hid (newS_at (r := w.heap.size + 1) of lf (by have := HKO.out; have := b1.size; omega) (by omega) bb2)
    have cz0 := ko.here.cell 0 _ rfl
    have fz0 := Lib.frozen_of_heap ko.here 0
    have cz1 := ko.here.cell 1 _ rfl
    have fz1 := Lib.frozen_of_heap ko.here 1
    clear of ko
    go_wp2
    refine bodyPost_ret (v := .agg #[.bool _, .slice Af _ cf]) (by simp [results, Tryz.results119, go_sem, cz0, cz1]; exact ⟨rfl, rfl⟩) rfl ?_
    exact HW.out
  · have hlen : ((limbs R).length : Int) > 0 := by have := mt (limbs_zero_iff R).1 h0; omega
    have H0 := Lib.hid h0
    clear h0
    have kr_c0 := kr.here.cell 0 _ rfl
    have kr_c1 := kr.here.cell 1 _ rfl
    have kr_c2 := kr.here.cell 2 _ rfl
    go_wp2_with fail
    clear kr_c0 kr_c1 kr_c2
    refine (l06Away_any _ _ _ r.1.1 Q R (denQ r) _ (by omega) hrl (by have := HP.out.d50; have e := HP.out.d; rw [← e]; exact (okQ_parts HOK.out).2.2.2.1) oq.here os.here (ownI_eq (ODr.out _ bb1) HP.out.d) m HM.out).mono ?_
    rintro e w2 ⟨rfl, b2⟩
    have bb2 := Below.next bb1 b2
    replace kr := kr.below b2
    replace ko := ko.below b2
    replace oq := oq.below b2
    replace os := os.below b2
    by_cases ha : awayB r.1.1 Q R (denQ r) m = true
    · have HV := Lib.hid (show mkS r.1.1 (trimL (addL (limbs Q) [1] 0)) = roundS r m by rw [one_more, ← EQ.out]; exact round_more (by rw [ER.out]; exact H0.out) (by rw [EQ.out, ER.out]; exact ha))
      rw [ha]
      clear ha
      have o1 := World.ownsRow_lit (base := w2.heap.size) (e := 3) (size := 1) w2 #[.int .i64 1] 1 (Nat.le_refl _) (by unfold maxLen; omega) rfl
      have HO1 := Lib.hid o1
      clear o1
      have kt := box_new (w2) #[.int .i64 1] 3
      have alt := below_al (Below.refl (w2).heap.size (w2)) (.cells #[.int .i64 1] 3)
      have bbt := Below.next bb2 alt
      replace kr := kr.below alt
      replace ko := ko.below alt
      replace oq := oq.below alt
      replace os := os.below alt
      go_wp2_with fail
      refine (specAdd_any _ _ (limbs Q) [1] 0 _ _ _ _ (by omega) (by decide) (Nat.le_refl _) (Nat.le_refl _) (limbs_digN Q) (by rw [← one_limbs]; exact limbs_digN 1) oq.here.row (Row.of_own HO1.out)).mono ?_
      rintro e w3 ⟨vs, rfl, osum0, b3⟩
      obtain ⟨Az, cz, rfl⟩ := own_len osum0
      have osum := own_at' osum0
      clear osum0
      have bb3 := Below.next bbt b3
      replace kr := kr.below b3
      replace ko := ko.below b3
      replace oq := oq.below b3
      replace os := os.below b3
      replace kt := kt.below b3
      have hsl : (addL (limbs Q) [1] 0).length ≤ 1048576 := by have := (addL_val (limbs Q) [1] 0 (limbs_digN Q) (by rw [← one_limbs]; exact limbs_digN 1) (by omega) (by omega)).2.2; simp only [List.length_cons, List.length_nil] at this; omega
      clear oq os kt
      have kr_c0 := kr.here.cell 0 _ rfl
      have kr_c1 := kr.here.cell 1 _ rfl
      have kr_c2 := kr.here.cell 2 _ rfl
      go_wp2_with fail
      clear kr_c0 kr_c1 kr_c2
      refine ((l04Make_any _ _ (addL (limbs Q) [1] 0) _ _ (hsl) (At.here osum)).mono fun _ _ h => roundVS_eq HV.out (NewS.newV h)).mono ?_
      rintro e w4 ⟨uf, Sf, rfl, of, lf, b4⟩
      obtain ⟨Af, cf, rfl⟩ := ownS_form of.here
      have bb4 := Below.next bb3 b4
      replace kr := kr.below b4
      replace ko := ko.below b4
      replace osum := osum.below b4
      have HW := Lib.hid (newS_at (r := w.heap.size + 1) of lf (by have := HKO.out; have := b1.size; have := b2.size; have := b3.size; have := alt.size; omega) (by omega) bb4)
      have cz0 := ko.here.cell 0 _ rfl
      have fz0 := Lib.frozen_of_heap ko.here 0
      have cz1 := ko.here.cell 1 _ rfl
      have fz1 := Lib.frozen_of_heap ko.here 1
      clear of ko
      go_wp2
      refine bodyPost_ret (v := .agg #[.bool _, .slice Af _ cf]) (by simp [results, Tryz.results119, go_sem, cz0, cz1]; exact ⟨rfl, rfl⟩) rfl ?_
      exact HW.out
    · have ha' : awayB r.1.1 Q R (denQ r) m = false := by simpa using ha
      have HV := Lib.hid (show mkS r.1.1 (trimL (limbs Q)) = roundS r m by rw [trimL_limbs, ← EQ.out]; exact round_plain (.inr (by rw [EQ.out, ER.out]; exact ha')))
      rw [ha']
      clear ha ha' os
      have kr_c0 := kr.here.cell 0 _ rfl
      have kr_c1 := kr.here.cell 1 _ rfl
      have kr_c2 := kr.here.cell 2 _ rfl
      go_wp2_with fail
      clear kr_c0 kr_c1 kr_c2
      refine ((l04Make_any _ _ (limbs Q) _ _ (by omega) (At.here oq)).mono fun _ _ h => roundVS_eq HV.out (NewS.newV h)).mono ?_
      rintro e w3 ⟨uf, Sf, rfl, of, lf, b3⟩
      obtain ⟨Af, cf, rfl⟩ := ownS_form of.here
      have bb3 := Below.next bb2 b3
      replace kr := kr.below b3
      replace ko := ko.below b3
      replace oq := oq.below b3
      have HW := Lib.hid (newS_at (r := w.heap.size + 1) of lf (by have := HKO.out; have := b1.size; have := b2.size; omega) (by omega) bb3)
      have cz0 := ko.here.cell 0 _ rfl
      have fz0 := Lib.frozen_of_heap ko.here 0
      have cz1 := ko.here.cell 1 _ rfl
      have fz1 := Lib.frozen_of_heap ko.here 1
      clear of ko
      go_wp2
      refine bodyPost_ret (v := .agg #[.bool _, .slice Af _ cf]) (by simp [results, Tryz.results119, go_sem, cz0, cz1]; exact ⟨rfl, rfl⟩) rfl ?_
      exact HW.out
set_option maxHeartbeats 2000000 in
set_option maxRecDepth 100000 in
theorem specRatRound_any (vr : Value) (r : QI) (m : Int) (w : World) (hz : szQ r ≤ 1048576) (hr : OwnQ vr r w) :
    Calls Tryz.prog 111 #[vr, .int .i64 m] w (PostSb (roundR r m).1 (roundR r m).2 w) := by
  have Hr := Lib.hid hr
  obtain ⟨Ar, cr, Br, dr, rfl⟩ := ownQ_form hr
  have OQr := Lib.hid (show ∀ W, Below w.heap.size w W → OwnQ (.agg #[.bool r.1.1, .slice Ar r.1.2.length cr, .slice Br r.2.length dr]) r W from fun W hb => OwnQ.below Hr.out hb)
  have OUr := Lib.hid (show ∀ W, Below w.heap.size w W → OwnI (.slice Ar r.1.2.length cr) r.1.2 W from fun W hb => (ownQ_open (OQr.out W hb)).2.1)
  have ODr := Lib.hid (show ∀ W, Below w.heap.size w W → OwnI (.slice Br r.2.length dr) r.2 W from fun W hb => (ownQ_open (OQr.out W hb)).2.2.1)
  have OSr := Lib.hid (show ∀ W, Below w.heap.size w W → OwnS (.agg #[.bool r.1.1, .slice Ar r.1.2.length cr]) r.1 W from fun W hb => OwnS.mk (OUr.out W hb))
  clear hr
  have bb0 : Below w.heap.size w ((w.alloc (.cells #[.bool r.1.1, .slice Ar r.1.2.length cr, .slice Br r.2.length dr] 34)).alloc (.cells #[.bool false, .slice none 0 0] 28)) := below_al (below_al (Below.refl _ _) _) _
  have kr := (box_new w #[.bool r.1.1, .slice Ar r.1.2.length cr, .slice Br r.2.length dr] 34).below (below_al (Below.refl _ _) (.cells #[.bool false, .slice none 0 0] 28))
  have ko := (box_new (w.alloc (.cells #[.bool r.1.1, .slice Ar r.1.2.length cr, .slice Br r.2.length dr] 34)) #[.bool false, .slice none 0 0] 28)
  rw [show (w.alloc (.cells #[.bool r.1.1, .slice Ar r.1.2.length cr, .slice Br r.2.length dr] 34)).heap.size = w.heap.size + 1 by simp] at ko
  have HKO := Lib.hid (ko.lt (w.heap.size + 1) (by simp))
  go_enter Tryz.func111, Tryz.ntmps111
  have kr_c0 := kr.here.cell 0 _ rfl
  have kr_c1 := kr.here.cell 1 _ rfl
  have kr_c2 := kr.here.cell 2 _ rfl
  go_wp2_with fail
  clear kr_c0 kr_c1 kr_c2
  refine (specRatOk_any _ r _ hz (OQr.out _ bb0)).mono ?_
  rintro e w1 ⟨rfl, b1⟩
  have bb1 := Below.next bb0 b1
  replace kr := kr.below b1
  replace ko := ko.below b1
  by_cases ok : okQ r = true
  · rw [ok]
    have HO := Lib.hid ok
    clear ok
    go_wp2_with fail
    refine (l06Mode_any m _).mono ?_
    rintro e w2 ⟨rfl, b2⟩
    have bb2 := Below.next bb1 b2
    replace kr := kr.below b2
    replace ko := ko.below b2
    by_cases hm : modeB m = true
    · rw [hm]
      have HM := Lib.hid hm
      have HV := Lib.hid (show roundR r m = (roundS r m, true) by unfold roundR; rw [if_pos ⟨HO.out, hm⟩])
      clear hm
      have kr_c0 := kr.here.cell 0 _ rfl
      have kr_c1 := kr.here.cell 1 _ rfl
      have kr_c2 := kr.here.cell 2 _ rfl
      go_wp2_with fail
      clear kr_c0 kr_c1 kr_c2
      refine (l06Round_any _ r m _ HO.out HM.out (OQr.out _ bb2)).mono ?_
      rintro e w3 ⟨uf, Sf, rfl, of, lf, b3⟩
      obtain ⟨Af, cf, rfl⟩ := ownS_form of.here
      have bb3 := Below.next bb2 b3
      replace kr := kr.below b3
      replace ko := ko.below b3
      have HW := Lib.hid (newSb_at (b := true) (r := w.heap.size + 1) of lf (by have := HKO.out; have := b1.size; have := b2.size; omega) (by omega) bb3)
      have cz0 := ko.here.cell 0 _ rfl
      have fz0 := Lib.frozen_of_heap ko.here 0
      have cz1 := ko.here.cell 1 _ rfl
      have fz1 := Lib.frozen_of_heap ko.here 1
      clear of ko
      go_wp2
      refine bodyPost_ret (v := .tuple #[.agg #[.bool _, .slice Af _ cf], .bool _]) (by simp [results, Tryz.results111, go_sem, cz0, cz1]; exact ⟨⟨rfl, rfl⟩, rfl⟩) rfl ?_
      rw [HV.out]
      exact HW.out
    · have hm' : modeB m = false := by simpa using hm
      have HV := Lib.hid (show roundR r m = (zeroS, false) by unfold roundR; rw [if_neg (fun h => hm h.2)])
      rw [hm']
      clear hm hm'
      have cz0 := ko.here.cell 0 _ rfl
      have fz0 := Lib.frozen_of_heap ko.here 0
      have cz1 := ko.here.cell 1 _ rfl
      have fz1 := Lib.frozen_of_heap ko.here 1
      go_wp2
      refine bodyPost_ret (v := .tuple #[.agg #[.bool false, .slice none 0 0], .bool false]) (by simp [results, Tryz.results111, go_sem, cz0, cz1]) rfl ?_
      rw [HV.out]
      first | exact newSb_zero _ bb2 | exact newSb_zero _ (below_set2 bb2 (by omega))
  · have ok' : okQ r = false := by simpa using ok
    have HV := Lib.hid (show roundR r m = (zeroS, false) by unfold roundR; rw [if_neg (fun h => ok h.1)])
    rw [ok']
    clear ok ok'
    have cz0 := ko.here.cell 0 _ rfl
    have fz0 := Lib.frozen_of_heap ko.here 0
    have cz1 := ko.here.cell 1 _ rfl
    have fz1 := Lib.frozen_of_heap ko.here 1
    go_wp2
    refine bodyPost_ret (v := .tuple #[.agg #[.bool false, .slice none 0 0], .bool false]) (by simp [results, Tryz.results111, go_sem, cz0, cz1]) rfl ?_
    rw [HV.out]
    first | exact newSb_zero _ bb1 | exact newSb_zero _ (below_set2 bb1 (by omega))
end Go.Proofs.YthfkdofnoomhaaaGreatDoor

namespace Go.Proofs.YthfkdofnoomhaaaGreatDoor
open Go.RowKit

theorem subN_sz {x N : QI} {b : Bool} (e : negQ x = (N, b)) : szQ N ≤ 1048576 := by
  have e1 : N = (negQ x).1 := by rw [e]
  rw [e1]
  unfold negQ
  split
  · rename_i h
    have h1 := (parts_of h).d50
    have h2 : (negS x.1).2.length ≤ 50 := by unfold negS; split; exact ofZ_len _; exact Nat.zero_le _
    unfold szQ szS szI
    simp only
    omega
  · decide
set_option maxHeartbeats 2000000 in
set_option maxRecDepth 100000 in
theorem specRatSub_any (vr : Value) (vs : Value) (r s : QI) (w : World) (hzr : szQ r ≤ 1048576) (hzs : szQ s ≤ 1048576) (hr : OwnQ vr r w) (hs : OwnQ vs s w) :
    Calls Tryz.prog 113 #[vr, vs] w (PostQb (subQ r s).1 (subQ r s).2 w) := by
  have Hr := Lib.hid hr
  obtain ⟨Ar, cr, Br, dr, rfl⟩ := ownQ_form hr
  have OQr := Lib.hid (show ∀ W, Below w.heap.size w W → OwnQ (.agg #[.bool r.1.1, .slice Ar r.1.2.length cr, .slice Br r.2.length dr]) r W from fun W hb => OwnQ.below Hr.out hb)
  have OUr := Lib.hid (show ∀ W, Below w.heap.size w W → OwnI (.slice Ar r.1.2.length cr) r.1.2 W from fun W hb => (ownQ_open (OQr.out W hb)).2.1)
  have ODr := Lib.hid (show ∀ W, Below w.heap.size w W → OwnI (.slice Br r.2.length dr) r.2 W from fun W hb => (ownQ_open (OQr.out W hb)).2.2.1)
  have OSr := Lib.hid (show ∀ W, Below w.heap.size w W → OwnS (.agg #[.bool r.1.1, .slice Ar r.1.2.length cr]) r.1 W from fun W hb => OwnS.mk (OUr.out W hb))
  clear hr
  have Hs := Lib.hid hs
  obtain ⟨As, cs, Bs, ds, rfl⟩ := ownQ_form hs
  have OQs := Lib.hid (show ∀ W, Below w.heap.size w W → OwnQ (.agg #[.bool s.1.1, .slice As s.1.2.length cs, .slice Bs s.2.length ds]) s W from fun W hb => OwnQ.below Hs.out hb)
  have OUs := Lib.hid (show ∀ W, Below w.heap.size w W → OwnI (.slice As s.1.2.length cs) s.1.2 W from fun W hb => (ownQ_open (OQs.out W hb)).2.1)
  have ODs := Lib.hid (show ∀ W, Below w.heap.size w W → OwnI (.slice Bs s.2.length ds) s.2 W from fun W hb => (ownQ_open (OQs.out W hb)).2.2.1)
  have OSs := Lib.hid (show ∀ W, Below w.heap.size w W → OwnS (.agg #[.bool s.1.1, .slice As s.1.2.length cs]) s.1 W from fun W hb => OwnS.mk (OUs.out W hb))
  clear hs
  have bb0 : Below w.heap.size w (((w.alloc (.cells #[.bool r.1.1, .slice Ar r.1.2.length cr, .slice Br r.2.length dr] 34)).alloc (.cells #[.bool s.1.1, .slice As s.1.2.length cs, .slice Bs s.2.length ds] 34)).alloc (.cells #[.bool false, .slice none 0 0, .slice none 0 0] 34)) := below_al (below_al (below_al (Below.refl _ _) _) _) _
  have kr := (box_new w #[.bool r.1.1, .slice Ar r.1.2.length cr, .slice Br r.2.length dr] 34).below (below_al (below_al (Below.refl _ _) (.cells #[.bool s.1.1, .slice As s.1.2.length cs, .slice Bs s.2.length ds] 34)) (.cells #[.bool false, .slice none 0 0, .slice none 0 0] 34))
  have ks := (box_new (w.alloc (.cells #[.bool r.1.1, .slice Ar r.1.2.length cr, .slice Br r.2.length dr] 34)) #[.bool s.1.1, .slice As s.1.2.length cs, .slice Bs s.2.length ds] 34).below (below_al (Below.refl _ _) (.cells #[.bool false, .slice none 0 0, .slice none 0 0] 34))
  rw [show (w.alloc (.cells #[.bool r.1.1, .slice Ar r.1.2.length cr, .slice Br r.2.length dr] 34)).heap.size = w.heap.size + 1 by simp] at ks
  have ko := (box_new ((w.alloc (.cells #[.bool r.1.1, .slice Ar r.1.2.length cr, .slice Br r.2.length dr] 34)).alloc (.cells #[.bool s.1.1, .slice As s.1.2.length cs, .slice Bs s.2.length ds] 34)) #[.bool false, .slice none 0 0, .slice none 0 0] 34)
  rw [show ((w.alloc (.cells #[.bool r.1.1, .slice Ar r.1.2.length cr, .slice Br r.2.length dr] 34)).alloc (.cells #[.bool s.1.1, .slice As s.1.2.length cs, .slice Bs s.2.length ds] 34)).heap.size = w.heap.size + 1 + 1 by simp] at ko
  obtain ⟨⟨N, bo⟩, hQ⟩ : ∃ q, negQ s = q := ⟨_, rfl⟩
  have EQ := Lib.hid hQ
  have hzN := subN_sz hQ
  have HD := Lib.hid (show subQ r s = if bo = true then addQ r N else (zeroQ, false) by unfold subQ; rw [hQ])
  obtain ⟨Q, hA⟩ : ∃ Q, addQ r N = Q := ⟨_, rfl⟩
  have EA := Lib.hid hA
  rw [hA] at HD
  clear hQ hA
  have HKO := Lib.hid (ko.lt (w.heap.size + 1 + 1) (by simp))
  go_enter Tryz.func113, Tryz.ntmps113
  have ks_c0 := ks.here.cell 0 _ rfl
  have ks_c1 := ks.here.cell 1 _ rfl
  have ks_c2 := ks.here.cell 2 _ rfl
  go_wp2_with fail
  clear ks_c0 ks_c1 ks_c2
  refine (show Calls _ _ _ _ (PostQb N bo _) from (specRatNeg_any _ s _ hzs (OQs.out _ bb0)).mono fun _ _ h => postQb_eq EQ.out h).mono ?_
  rintro e w1 ⟨un, Sn, rfl, on, ln, b1⟩
  obtain ⟨An, cn, Bn, dn, rfl⟩ := ownQ_form on.here
  have bb1 := Below.next bb0 b1
  replace kr := kr.below b1
  replace ks := ks.below b1
  replace ko := ko.below b1
  cases bo with
  | true =>
    have HV := Lib.hid (show subQ r s = Q by rw [HD.out]; rfl)
    clear HD
    have kt := box_new (w1) #[.bool N.1.1, .slice An N.1.2.length cn, .slice Bn N.2.length dn] 34
    have alt := below_al (Below.refl (w1).heap.size (w1)) (.cells #[.bool N.1.1, .slice An N.1.2.length cn, .slice Bn N.2.length dn] 34)
    have bbt := Below.next bb1 alt
    replace kr := kr.below alt
    replace ks := ks.below alt
    replace ko := ko.below alt
    replace on := on.below alt
    have kt_c0 := kt.here.cell 0 _ rfl
    have kt_c1 := kt.here.cell 1 _ rfl
    have kt_c2 := kt.here.cell 2 _ rfl
    have kr_c0 := kr.here.cell 0 _ rfl
    have kr_c1 := kr.here.cell 1 _ rfl
    have kr_c2 := kr.here.cell 2 _ rfl
    go_wp2_with fail
    clear kt_c0 kt_c1 kt_c2 kr_c0 kr_c1 kr_c2
    refine ((specRatAdd_any _ _ r N _ hzr hzN (OQr.out _ bbt) on.here).mono fun _ _ h => postQb_eq EA.out h).mono ?_
    rintro e w2 ⟨uf, Sf, rfl, of, lf, b2⟩
    obtain ⟨Af, cf, Bf, df, rfl⟩ := ownQ_form of.here
    have bb2 := Below.next bbt b2
    replace kr := kr.below b2
    replace ks := ks.below b2
    replace ko := ko.below b2
    replace on := on.below b2
    replace kt := kt.below b2
    clear on kt kr ks
    have HW := Lib.hid (newQb_at (r := w.heap.size + 1 + 1) (b := Q.2) of lf (by have h1 := HKO.out; have h2 := b1.size; have h3 := alt.size; omega) (by omega) bb2)
    have cz0 := ko.here.cell 0 _ rfl
    have fz0 := Lib.frozen_of_heap ko.here 0
    have cz1 := ko.here.cell 1 _ rfl
    have fz1 := Lib.frozen_of_heap ko.here 1
    have cz2 := ko.here.cell 2 _ rfl
    have fz2 := Lib.frozen_of_heap ko.here 2
    clear of ko
    go_wp2
    refine bodyPost_ret (v := .tuple #[.agg #[.bool _, .slice Af _ cf, .slice Bf _ df], .bool _]) (by simp [results, Tryz.results113, go_sem, cz0, cz1, cz2]; exact ⟨⟨rfl, rfl, rfl⟩, rfl⟩) rfl ?_
    rw [HV.out]
    exact HW.out
  | false =>
    have HV := Lib.hid (show subQ r s = (zeroQ, false) by rw [HD.out]; rfl)
    clear HD on
    have kt := box_new (w1) #[.bool N.1.1, .slice An N.1.2.length cn, .slice Bn N.2.length dn] 34
    have alt := below_al (Below.refl (w1).heap.size (w1)) (.cells #[.bool N.1.1, .slice An N.1.2.length cn, .slice Bn N.2.length dn] 34)
    have bbt := Below.next bb1 alt
    replace kr := kr.below alt
    replace ks := ks.below alt
    replace ko := ko.below alt
    have ko_c0 := ko.here.cell 0 _ rfl
    have ko_c1 := ko.here.cell 1 _ rfl
    have ko_c2 := ko.here.cell 2 _ rfl
    have cz0 := ko.here.cell 0 _ rfl
    have fz0 := Lib.frozen_of_heap ko.here 0
    have cz1 := ko.here.cell 1 _ rfl
    have fz1 := Lib.frozen_of_heap ko.here 1
    have cz2 := ko.here.cell 2 _ rfl
    have fz2 := Lib.frozen_of_heap ko.here 2
    go_wp2
    refine bodyPost_ret (v := .tuple #[.agg #[.bool false, .slice none 0 0, .slice none 0 0], .bool false]) (by simp [results, Tryz.results113, go_sem, cz0, cz1, cz2]) rfl ?_
    rw [HV.out]
    first | exact newQb_zero _ bbt | exact newQb_zero _ (below_set3 bbt (by omega))
end Go.Proofs.YthfkdofnoomhaaaGreatDoor

namespace Go.Proofs.YthfkdofnoomhaaaGreatDoor
open Go.RowKit

set_option maxHeartbeats 4000000 in
set_option maxRecDepth 100000 in
theorem specRatRest_any (vr : Value) (r : QI) (m : Int) (w : World) (hz : szQ r ≤ 1048576) (hr : OwnQ vr r w) :
    Calls Tryz.prog 40 #[vr, .int .i64 m] w (PostSQb (restS r m) (restQ r m) (restB r m) w) := by
  have Hr := Lib.hid hr
  obtain ⟨Ar, cr, Br, dr, rfl⟩ := ownQ_form hr
  have OQr := Lib.hid (show ∀ W, Below w.heap.size w W → OwnQ (.agg #[.bool r.1.1, .slice Ar r.1.2.length cr, .slice Br r.2.length dr]) r W from fun W hb => OwnQ.below Hr.out hb)
  have OUr := Lib.hid (show ∀ W, Below w.heap.size w W → OwnI (.slice Ar r.1.2.length cr) r.1.2 W from fun W hb => (ownQ_open (OQr.out W hb)).2.1)
  have ODr := Lib.hid (show ∀ W, Below w.heap.size w W → OwnI (.slice Br r.2.length dr) r.2 W from fun W hb => (ownQ_open (OQr.out W hb)).2.2.1)
  have OSr := Lib.hid (show ∀ W, Below w.heap.size w W → OwnS (.agg #[.bool r.1.1, .slice Ar r.1.2.length cr]) r.1 W from fun W hb => OwnS.mk (OUr.out W hb))
  clear hr
  have bb0 : Below w.heap.size w (((w.alloc (.cells #[.bool r.1.1, .slice Ar r.1.2.length cr, .slice Br r.2.length dr] 34)).alloc (.cells #[.bool false, .slice none 0 0] 28)).alloc (.cells #[.bool false, .slice none 0 0, .slice none 0 0] 34)) := below_al (below_al (below_al (Below.refl _ _) _) _) _
  have kr := (box_new w #[.bool r.1.1, .slice Ar r.1.2.length cr, .slice Br r.2.length dr] 34).below (below_al (below_al (Below.refl _ _) (.cells #[.bool false, .slice none 0 0] 28)) (.cells #[.bool false, .slice none 0 0, .slice none 0 0] 34))
  have ko := (box_new (w.alloc (.cells #[.bool r.1.1, .slice Ar r.1.2.length cr, .slice Br r.2.length dr] 34)) #[.bool false, .slice none 0 0] 28).below (below_al (Below.refl _ _) (.cells #[.bool false, .slice none 0 0, .slice none 0 0] 34))
  rw [show (w.alloc (.cells #[.bool r.1.1, .slice Ar r.1.2.length cr, .slice Br r.2.length dr] 34)).heap.size = w.heap.size + 1 by simp] at ko
  have kp := (box_new ((w.alloc (.cells #[.bool r.1.1, .slice Ar r.1.2.length cr, .slice Br r.2.length dr] 34)).alloc (.cells #[.bool false, .slice none 0 0] 28)) #[.bool false, .slice none 0 0, .slice none 0 0] 34)
  rw [show ((w.alloc (.cells #[.bool r.1.1, .slice Ar r.1.2.length cr, .slice Br r.2.length dr] 34)).alloc (.cells #[.bool false, .slice none 0 0] 28)).heap.size = w.heap.size + 1 + 1 by simp] at kp
  have HKO := Lib.hid (ko.lt (w.heap.size + 1) (by simp))
  have HKP := Lib.hid (kp.lt (w.heap.size + 1 + 1) (by simp))
  obtain ⟨X, hX⟩ : ∃ X, (roundR r m).1 = X := ⟨_, rfl⟩
  obtain ⟨Y, hY⟩ : ∃ Y, (makeQ X (ofZ 1)).1 = Y := ⟨_, rfl⟩
  obtain ⟨Z, hZ⟩ : ∃ Z, (subQ r Y).1 = Z := ⟨_, rfl⟩
  have zX : szS X ≤ 1048576 := by rw [← hX]; exact roundR_sz r m
  have zY : szQ Y ≤ 1048576 := by rw [← hY]; exact makeQ_szQ _ _
  by_cases hb : okQ r = true ∧ modeB m = true
  · obtain ⟨r1, r2, r3, r4⟩ := rest_all hb.1 hb.2
    have ER := Lib.hid (show roundR r m = (X, true) by rw [r1, ← hX, r1])
    have rp := rest_parts hb.1 m
    have e0 : roundS r m = X := by rw [← hX, r1]
    rw [e0] at rp r3 r4
    rw [hY] at rp r4
    rw [hZ] at r4
    have EM := Lib.hid (show makeQ X (ofZ 1) = (Y, true) by rw [← hY, ← rp.1])
    have ES := Lib.hid (show subQ r Y = (Z, true) by rw [← hZ, ← rp.2])
    have HV := Lib.hid (show restS r m = X ∧ restQ r m = Z ∧ restB r m = true from ⟨r3, r4, r2⟩)
    clear rp e0
    clear hX hY hZ r1 r2 r3 r4 hb
    go_enter Tryz.func40, Tryz.ntmps40
    have kr_c0 := kr.here.cell 0 _ rfl
    have kr_c1 := kr.here.cell 1 _ rfl
    have kr_c2 := kr.here.cell 2 _ rfl
    go_wp2_with fail
    clear kr_c0 kr_c1 kr_c2
    refine ((specRatRound_any _ r m _ hz (OQr.out _ bb0)).mono fun _ _ h => postSb_is ER.out h).mono ?_
    rintro e w1 ⟨ux, Sx, rfl, ox, lx, b1⟩
    obtain ⟨Ax, cx, rfl⟩ := ownS_form ox.here
    have bb1 := Below.next bb0 b1
    replace kr := kr.below b1
    replace ko := ko.below b1
    replace kp := kp.below b1
    have kx := box_new (w1) #[.bool X.1, .slice Ax X.2.length cx] 28
    have alx := below_al (Below.refl (w1).heap.size (w1)) (.cells #[.bool X.1, .slice Ax X.2.length cx] 28)
    have bbx := Below.next bb1 alx
    replace kr := kr.below alx
    replace ko := ko.below alx
    replace kp := kp.below alx
    replace ox := ox.below alx
    have kx_c0 := kx.here.cell 0 _ rfl
    have kx_c1 := kx.here.cell 1 _ rfl
    go_wp2_with fail
    clear kx_c0 kx_c1
    refine ((specRatInt_any _ X _ zX ox.here).mono fun _ _ h => postQb_is EM.out h).mono ?_
    rintro e w2 ⟨uy, Sy, rfl, oy, ly, b2⟩
    obtain ⟨Ay, cy, By, dy, rfl⟩ := ownQ_form oy.here
    have bb2 := Below.next bbx b2
    replace kr := kr.below b2
    replace ko := ko.below b2
    replace kp := kp.below b2
    replace ox := ox.below b2
    replace kx := kx.below b2
    have ky := box_new (w2) #[.bool Y.1.1, .slice Ay Y.1.2.length cy, .slice By Y.2.length dy] 34
    have aly := below_al (Below.refl (w2).heap.size (w2)) (.cells #[.bool Y.1.1, .slice Ay Y.1.2.length cy, .slice By Y.2.length dy] 34)
    have bby := Below.next bb2 aly
    replace kr := kr.below aly
    replace ko := ko.below aly
    replace kp := kp.below aly
    replace ox := ox.below aly
    replace kx := kx.below aly
    replace oy := oy.below aly
    have kr_c0 := kr.here.cell 0 _ rfl
    have kr_c1 := kr.here.cell 1 _ rfl
    have kr_c2 := kr.here.cell 2 _ rfl
    have ky_c0 := ky.here.cell 0 _ rfl
    have ky_c1 := ky.here.cell 1 _ rfl
    have ky_c2 := ky.here.cell 2 _ rfl
    go_wp2_with fail
    clear kr_c0 kr_c1 kr_c2 ky_c0 ky_c1 ky_c2
    refine ((specRatSub_any _ _ r Y _ hz zY (OQr.out _ bby) oy.here).mono fun _ _ h => postQb_is ES.out h).mono ?_
    rintro e w3 ⟨uz, Sz, rfl, oz, lz, b3⟩
    obtain ⟨Az, cz, Bz, dz, rfl⟩ := ownQ_form oz.here
    have bb3 := Below.next bby b3
    replace kr := kr.below b3
    replace ko := ko.below b3
    replace kp := kp.below b3
    replace ox := ox.below b3
    replace kx := kx.below b3
    replace oy := oy.below b3
    replace ky := ky.below b3
    have kz := box_new (w3) #[.bool Z.1.1, .slice Az Z.1.2.length cz, .slice Bz Z.2.length dz] 34
    have alz := below_al (Below.refl (w3).heap.size (w3)) (.cells #[.bool Z.1.1, .slice Az Z.1.2.length cz, .slice Bz Z.2.length dz] 34)
    have bbz := Below.next bb3 alz
    replace kr := kr.below alz
    replace ko := ko.below alz
    replace kp := kp.below alz
    replace ox := ox.below alz
    replace kx := kx.below alz
    replace oy := oy.below alz
    replace ky := ky.below alz
    replace oz := oz.below alz
    have z1 := b1.size
    have z2 := b2.size
    have z3 := b3.size
    have zx := alx.size
    have zy := aly.size
    have zz := alz.size
    have HKX := Lib.hid (kx.lt _ (List.mem_singleton.2 rfl))
    have HW := Lib.hid (newSQb_at (b := true) (r := w.heap.size + 1) (p := w.heap.size + 1 + 1) ox oz (within_up lx (Nat.le_refl _) (Nat.le_trans zx (Nat.le_trans z2 (Nat.le_trans zy (Nat.le_trans z3 zz))))) (within_up lz (Nat.le_refl _) zz) (Within.apart lx lz (.inl (Nat.le_trans zx (Nat.le_trans z2 zy)))) HKP.out (Nat.lt_of_lt_of_le HKP.out (Nat.le_trans z1 (Nat.le_trans zx (Nat.le_trans z2 zy)))) (by omega) (by omega) (by omega) bbz)
    have hs1 := HKP.out
    have hs2 := Nat.lt_of_lt_of_le HKP.out z1
    have hs3 := Nat.lt_of_lt_of_le hs2 (Nat.le_trans zx (Nat.le_trans z2 (Nat.le_trans zy z3)))
    have hn_w1_1 : ¬ w1.heap.size = w.heap.size + 1 := by omega
    have hn_w1_1' : ¬ w.heap.size + 1 = w1.heap.size := by omega
    have hn_w1_2 : ¬ w1.heap.size = w.heap.size + 1 + 1 := by omega
    have hn_w1_2' : ¬ w.heap.size + 1 + 1 = w1.heap.size := by omega
    have hn_w3_1 : ¬ w3.heap.size = w.heap.size + 1 := by omega
    have hn_w3_1' : ¬ w.heap.size + 1 = w3.heap.size := by omega
    have hn_w3_2 : ¬ w3.heap.size = w.heap.size + 1 + 1 := by omega
    have hn_w3_2' : ¬ w.heap.size + 1 + 1 = w3.heap.size := by omega
    clear hs1 hs2 hs3
    have cko0 := ko.here.cell 0 _ rfl
    have cko1 := ko.here.cell 1 _ rfl
    have fko0 := Lib.frozen_of_heap ko.here 0
    have fko1 := Lib.frozen_of_heap ko.here 1
    have ckp0 := kp.here.cell 0 _ rfl
    have ckp1 := kp.here.cell 1 _ rfl
    have ckp2 := kp.here.cell 2 _ rfl
    have fkp0 := Lib.frozen_of_heap kp.here 0
    have fkp1 := Lib.frozen_of_heap kp.here 1
    have fkp2 := Lib.frozen_of_heap kp.here 2
    have ckx0 := kx.here.cell 0 _ rfl
    have ckx1 := kx.here.cell 1 _ rfl
    have ckz0 := kz.here.cell 0 _ rfl
    have ckz1 := kz.here.cell 1 _ rfl
    have ckz2 := kz.here.cell 2 _ rfl
    clear ox oy oz ko kp kr kx ky kz z1 z2 z3 zx zy zz lx ly lz
    go_wp2_with fail
    go_region
    all_goals (go_wp2; refine bodyPost_ret (v := .tuple #[.agg #[.bool X.1, .slice Ax X.2.length cx], .agg #[.bool Z.1.1, .slice Az Z.1.2.length cz, .slice Bz Z.2.length dz], .bool true]) (by simp [results, Tryz.results40, go_sem, cko0, cko1, ckp0, ckp1, ckp2]) rfl ?_)
    all_goals (rw [HV.out.1, HV.out.2.1, HV.out.2.2]; refine HW.out _ ?_; repeat (first | exact Chg.refl _ _ | refine Chg.setCell ?_ (by simp) _ | refine Chg.drew1 ?_))
  · obtain ⟨r1, r2, r3, r4⟩ := rest_none hb
    have ER := Lib.hid (show roundR r m = (X, false) by rw [r1, ← hX, r1])
    have HV := Lib.hid (show restS r m = zeroS ∧ restQ r m = zeroQ ∧ restB r m = false from ⟨r3, r4, r2⟩)
    obtain ⟨by_, hby⟩ : ∃ b, (makeQ X (ofZ 1)).2 = b := ⟨_, rfl⟩
    obtain ⟨bz_, hbz⟩ : ∃ b, (subQ r Y).2 = b := ⟨_, rfl⟩
    have EM := Lib.hid (show makeQ X (ofZ 1) = (Y, by_) by rw [← hY, ← hby])
    have ES := Lib.hid (show subQ r Y = (Z, bz_) by rw [← hZ, ← hbz])
    clear hby hbz
    clear hX hY hZ r1 r2 r3 r4 hb
    go_enter Tryz.func40, Tryz.ntmps40
    have kr_c0 := kr.here.cell 0 _ rfl
    have kr_c1 := kr.here.cell 1 _ rfl
    have kr_c2 := kr.here.cell 2 _ rfl
    go_wp2_with fail
    clear kr_c0 kr_c1 kr_c2
    refine ((specRatRound_any _ r m _ hz (OQr.out _ bb0)).mono fun _ _ h => postSb_is ER.out h).mono ?_
    rintro e w1 ⟨ux, Sx, rfl, ox, lx, b1⟩
    obtain ⟨Ax, cx, rfl⟩ := ownS_form ox.here
    have bb1 := Below.next bb0 b1
    replace kr := kr.below b1
    replace ko := ko.below b1
    replace kp := kp.below b1
    have kx := box_new (w1) #[.bool X.1, .slice Ax X.2.length cx] 28
    have alx := below_al (Below.refl (w1).heap.size (w1)) (.cells #[.bool X.1, .slice Ax X.2.length cx] 28)
    have bbx := Below.next bb1 alx
    replace kr := kr.below alx
    replace ko := ko.below alx
    replace kp := kp.below alx
    replace ox := ox.below alx
    have kx_c0 := kx.here.cell 0 _ rfl
    have kx_c1 := kx.here.cell 1 _ rfl
    go_wp2_with fail
    clear kx_c0 kx_c1
    refine ((specRatInt_any _ X _ zX ox.here).mono fun _ _ h => postQb_is EM.out h).mono ?_
    rintro e w2 ⟨uy, Sy, rfl, oy, ly, b2⟩
    obtain ⟨Ay, cy, By, dy, rfl⟩ := ownQ_form oy.here
    have bb2 := Below.next bbx b2
    replace kr := kr.below b2
    replace ko := ko.below b2
    replace kp := kp.below b2
    replace ox := ox.below b2
    replace kx := kx.below b2
    have ky := box_new (w2) #[.bool Y.1.1, .slice Ay Y.1.2.length cy, .slice By Y.2.length dy] 34
    have aly := below_al (Below.refl (w2).heap.size (w2)) (.cells #[.bool Y.1.1, .slice Ay Y.1.2.length cy, .slice By Y.2.length dy] 34)
    have bby := Below.next bb2 aly
    replace kr := kr.below aly
    replace ko := ko.below aly
    replace kp := kp.below aly
    replace ox := ox.below aly
    replace kx := kx.below aly
    replace oy := oy.below aly
    have kr_c0 := kr.here.cell 0 _ rfl
    have kr_c1 := kr.here.cell 1 _ rfl
    have kr_c2 := kr.here.cell 2 _ rfl
    have ky_c0 := ky.here.cell 0 _ rfl
    have ky_c1 := ky.here.cell 1 _ rfl
    have ky_c2 := ky.here.cell 2 _ rfl
    go_wp2_with fail
    clear kr_c0 kr_c1 kr_c2 ky_c0 ky_c1 ky_c2
    refine ((specRatSub_any _ _ r Y _ hz zY (OQr.out _ bby) oy.here).mono fun _ _ h => postQb_is ES.out h).mono ?_
    rintro e w3 ⟨uz, Sz, rfl, oz, lz, b3⟩
    obtain ⟨Az, cz, Bz, dz, rfl⟩ := ownQ_form oz.here
    have bb3 := Below.next bby b3
    replace kr := kr.below b3
    replace ko := ko.below b3
    replace kp := kp.below b3
    replace ox := ox.below b3
    replace kx := kx.below b3
    replace oy := oy.below b3
    replace ky := ky.below b3
    have kz := box_new (w3) #[.bool Z.1.1, .slice Az Z.1.2.length cz, .slice Bz Z.2.length dz] 34
    have alz := below_al (Below.refl (w3).heap.size (w3)) (.cells #[.bool Z.1.1, .slice Az Z.1.2.length cz, .slice Bz Z.2.length dz] 34)
    have bbz := Below.next bb3 alz
    replace kr := kr.below alz
    replace ko := ko.below alz
    replace kp := kp.below alz
    replace ox := ox.below alz
    replace kx := kx.below alz
    replace oy := oy.below alz
    replace ky := ky.below alz
    replace oz := oz.below alz
    have cko0 := ko.here.cell 0 _ rfl
    have fko0 := Lib.frozen_of_heap ko.here 0
    have cko1 := ko.here.cell 1 _ rfl
    have fko1 := Lib.frozen_of_heap ko.here 1
    have ckp0 := kp.here.cell 0 _ rfl
    have fkp0 := Lib.frozen_of_heap kp.here 0
    have ckp1 := kp.here.cell 1 _ rfl
    have fkp1 := Lib.frozen_of_heap kp.here 1
    have ckp2 := kp.here.cell 2 _ rfl
    have fkp2 := Lib.frozen_of_heap kp.here 2
    go_wp2
    refine bodyPost_ret (v := .tuple #[.agg #[.bool false, .slice none 0 0], .agg #[.bool false, .slice none 0 0, .slice none 0 0], .bool false]) (by simp [results, Tryz.results40, go_sem, cko0, cko1, ckp0, ckp1, ckp2]) rfl ?_
    rw [HV.out.1, HV.out.2.1, HV.out.2.2]
    first | exact newSQb_zero bbz | exact newSQb_zero (below_set3 (below_set2 bbz (by omega)) (by omega))
end Go.Proofs.YthfkdofnoomhaaaGreatDoor

namespace Go.Proofs.YthfkdofnoomhaaaGreatDoor
open Go.RowKit

theorem cmpS_zero {b : SI} (h : okS b = true) : (cmpS b zeroS = 0) ↔ nval b.2 = 0 := by
  have n := nval_ok (okS_parts h).1
  unfold cmpS
  rw [if_pos ⟨h, zeroS_ok⟩, zeroS_val]
  have e : valS b = 0 ↔ nval b.2 = 0 := by
    unfold valS
    split <;> omega
  rw [← e]
  unfold cmpI
  split
  · omega
  · split <;> omega
theorem makeQ_none {a b : SI} (h : ¬ (okS a = true ∧ cmpS b zeroS ≠ 0)) : makeQ a b = (zeroQ, false) := by
  unfold makeQ
  split
  · rename_i hk
    have hz : nval b.2 = 0 := (cmpS_zero hk.2).1 (Classical.byContradiction fun e => h ⟨hk.1, e⟩)
    unfold lowQ
    rw [if_neg (fun k => k.1 (by rw [hz]; rfl))]
  · rfl
theorem cmpS_ok {b : SI} (h : cmpS b zeroS ≠ 0) : okS b = true := by
  unfold cmpS at h
  rcases Classical.em (okS b = true ∧ okS zeroS = true) with k | k
  · exact k.1
  · rw [if_neg k] at h
    exact absurd rfl h
/-- the parts that RatMake divides out -/
theorem makeQ_parts {a b : SI} (ha : okS a = true) (hb : cmpS b zeroS ≠ 0) : ∃ X Y : Nat,
    gcdN a.2 b.2 = limbs (Nat.gcd (nval a.2).toNat (nval b.2).toNat) ∧ (divN a.2 (gcdN a.2 b.2)).1 = limbs X ∧ (divN b.2 (gcdN a.2 b.2)).1 = limbs Y ∧ (limbs X).length ≤ 50 ∧ (limbs Y).length ≤ 50 ∧ 0 < (limbs Y).length ∧
    makeQ a b = if (limbs X).length ≤ 18 ∧ (limbs Y).length ≤ 18 then ((mkS (!(a.1 == b.1)) (limbs X), limbs Y), true) else (zeroQ, false) := by
  have hkb := cmpS_ok hb
  have pa := okS_parts ha
  have pb := okS_parts hkb
  have na := nval_ok pa.1
  have nb := nval_ok pb.1
  have hz : nval b.2 ≠ 0 := fun e => hb ((cmpS_zero hkb).2 e)
  have hg := gcdN_small a.2 b.2
  have eg : gcdN a.2 b.2 = limbs (Nat.gcd (nval a.2).toNat (nval b.2).toNat) := by unfold gcdN; rw [if_pos ⟨pa.1, pb.1⟩]
  have g0 := Nat.gcd_pos_of_pos_right (nval a.2).toNat (show 0 < (nval b.2).toNat by omega)
  have okg : natOkB (gcdN a.2 b.2) = true := by rw [eg] at hg ⊢; exact limbs_okL _ hg
  have lg : 0 < (gcdN a.2 b.2).length := by
    rw [eg]
    rcases Nat.eq_zero_or_pos (limbs (Nat.gcd (nval a.2).toNat (nval b.2).toNat)).length with h | h
    · have := (limbs_zero_iff _).1 h
      omega
    · exact h
  have dv : ∀ c : List Int, natOkB c = true → (divN c (gcdN a.2 b.2)).1 = limbs ((nval c).toNat / Nat.gcd (nval a.2).toNat (nval b.2).toNat) ∧ (limbs ((nval c).toNat / Nat.gcd (nval a.2).toNat (nval b.2).toNat)).length ≤ 50 := by
    intro c hc
    have nc := nval_ok hc
    unfold divN
    rw [if_pos ⟨hc, okg, lg⟩, eg, limbs_val]
    have e : (nval c / ((Nat.gcd (nval a.2).toNat (nval b.2).toNat : Nat) : Int)).toNat = (nval c).toNat / Nat.gcd (nval a.2).toNat (nval b.2).toNat := by
      rw [← div_toNat]
      congr 2
      omega
    simp only
    rw [e]
    refine ⟨rfl, ?_⟩
    have hm := limbs_mono (m := (((nval c).toNat / Nat.gcd (nval a.2).toNat (nval b.2).toNat : Nat) : Int)) (n := nval c) (by omega) (by have := Nat.div_le_self (nval c).toNat (Nat.gcd (nval a.2).toNat (nval b.2).toNat); omega)
    rw [Int.toNat_natCast, ← natOk_limbs hc] at hm
    have := (natOk_parts hc).2.1
    omega
  have hy : 0 < (limbs ((nval b.2).toNat / Nat.gcd (nval a.2).toNat (nval b.2).toNat)).length := by
    have h1 := Nat.div_pos (Nat.le_of_dvd (show 0 < (nval b.2).toNat by omega) (Nat.gcd_dvd_right (nval a.2).toNat (nval b.2).toNat)) g0
    rcases Nat.eq_zero_or_pos (limbs ((nval b.2).toNat / Nat.gcd (nval a.2).toNat (nval b.2).toNat)).length with h | h
    · have := (limbs_zero_iff _).1 h
      omega
    · exact h
  refine ⟨(nval a.2).toNat / Nat.gcd (nval a.2).toNat (nval b.2).toNat, (nval b.2).toNat / Nat.gcd (nval a.2).toNat (nval b.2).toNat, eg, (dv _ pa.1).1, (dv _ pb.1).1, (dv _ pa.1).2, (dv _ pb.1).2, hy, ?_⟩
  unfold makeQ
  rw [if_pos ⟨ha, hkb⟩]
  unfold lowQ
  have h0 : (nval b.2).toNat ≠ 0 := by omega
  have e : (a.1 != b.1) = !(a.1 == b.1) := rfl
  simp only [h0, ne_eq, not_false_eq_true, true_and, e]

theorem mulS_cross {x : SI} {d : List Int} {n : Nat} (hx : okS x = true) (hd : natOkB d = true) (hn : n = (nval d).toNat) : mulS x (false, d) = ofZ (valS x * n) ∧ okS (false, d) = true := by
  have h0 := nval_ok hd
  have hk : okS (false, d) = true := by unfold okS; rw [hd]; rfl
  refine ⟨?_, hk⟩
  unfold mulS
  rw [if_pos ⟨hx, hk⟩]
  have : valS (false, d) = n := by unfold valS; simp; omega
  rw [this]
theorem cross_abs {q : QI} {n : Nat} (h : Parts q) (hn : (n : Int) < bp 18) : ((numQ q * n).natAbs : Int) < bp 36 := by
  rw [h.top]
  have := prod_lt h.nlt hn
  split
  · rw [Int.neg_mul, Int.natAbs_neg, ← Int.natCast_mul]; omega
  · rw [← Int.natCast_mul]; omega
theorem ofZ_short {z : Int} {k : Nat} (h : (z.natAbs : Int) < bp k) (hk : k ≤ 50) : okS (ofZ z) = true ∧ valS (ofZ z) = z ∧ ofZ z = (decide (z < 0), limbs z.natAbs) := by
  have hl := limbs_length_le z.natAbs k h
  refine ⟨ofZ_ok z, ofZ_val (by omega), ?_⟩
  unfold ofZ
  rw [if_pos (by omega)]
/-- what RatMake makes of integers -/
theorem makeQ_ofZ {z : Int} {k m : Nat} {n : Bool} {d : List Int} (h : (z.natAbs : Int) < bp k) (hk : k ≤ 50) (hd : d = limbs m) (_ : (limbs m).length ≤ 50) (hn : okS (n, d) = true) : makeQ (ofZ z) (n, d) = lowQ (decide (z < 0) != n) z.natAbs m := by
  obtain ⟨h1, _, h3⟩ := ofZ_short h hk
  unfold makeQ
  rw [if_pos ⟨h1, hn⟩, h3]
  simp only
  rw [limbs_val, hd, limbs_val, Int.toNat_natCast, Int.toNat_natCast]
theorem nil_ok {d : List Int} (hd : natOkB d = true) : okS (false, d) = true := by unfold okS; rw [hd]; rfl
theorem numQ_val (q : QI) : valS q.1 = numQ q := rfl
def leftS (r s : QI) : SI := mulS r.1 (false, s.2)
def denS (r s : QI) : SI := (false, mulN r.2 s.2)
def topS (r s : QI) : SI := mulS r.1 s.1
theorem leftS_eq {r s : QI} (hr : Parts r) (hs : Parts s) : leftS r s = ofZ (numQ r * denQ s) ∧ okS (leftS r s) = true ∧ valS (leftS r s) = numQ r * denQ s := by
  have h := (mulS_cross hr.okn hs.okd (show denQ s = _ from rfl)).1
  rw [numQ_val] at h
  have hz := ofZ_short (cross_abs hr hs.dlt) (by decide)
  unfold leftS
  rw [h]
  exact ⟨rfl, hz.1, hz.2.1⟩
theorem denS_eq {r s : QI} (hr : Parts r) (hs : Parts s) : denS r s = (false, limbs (denQ r * denQ s)) ∧ okS (denS r s) = true ∧ (limbs (denQ r * denQ s)).length ≤ 50 := by
  have hl := Nat.le_trans (prod_len hr.dlt hs.dlt) (show 36 ≤ 50 by decide)
  have e : mulN r.2 s.2 = limbs (denQ r * denQ s) := by
    unfold mulN natRes capL
    rw [if_pos ⟨hr.okd, hs.okd⟩, mul_toNat hr.okd hs.okd]
    show (if 50 < (limbs (denQ r * denQ s)).length then [] else limbs (denQ r * denQ s)) = _
    rw [if_neg (by omega)]
  unfold denS
  rw [e]
  exact ⟨rfl, nil_ok (limbs_okL _ hl), hl⟩
theorem topS_eq {r s : QI} (hr : Parts r) (hs : Parts s) : topS r s = ofZ (numQ r * numQ s) ∧ ((numQ r * numQ s).natAbs : Int) < bp 36 ∧ (numQ r * numQ s).natAbs = topN r * topN s := by
  have e : (numQ r * numQ s).natAbs = topN r * topN s := by
    rw [Int.natAbs_mul, hr.top, hs.top]
    congr 1 <;> split <;> omega
  unfold topS mulS
  rw [if_pos ⟨hr.okn, hs.okn⟩]
  exact ⟨rfl, by rw [e]; exact prod_lt hr.nlt hs.nlt, e⟩
theorem sum_abs {x y : Int} (hx : (x.natAbs : Int) < bp 36) (hy : (y.natAbs : Int) < bp 36) : ((x + y).natAbs : Int) < bp 37 ∧ ((x - y).natAbs : Int) < bp 37 := by
  have := bp37
  omega
theorem addQ_make {r s : QI} (hr : Parts r) (hs : Parts s) (okr : okQ r = true) (oks : okQ s = true) : makeQ (addS (leftS r s) (leftS s r)) (denS r s) = addQ r s := by
  have l := leftS_eq hr hs
  have m := leftS_eq hs hr
  have d := denS_eq hr hs
  have e : addS (leftS r s) (leftS s r) = ofZ (numQ r * denQ s + numQ s * denQ r) := by
    unfold addS
    rw [if_pos ⟨l.2.1, m.2.1⟩, l.2.2, m.2.2]
  rw [e, d.1, makeQ_ofZ (sum_abs (cross_abs hr hs.dlt) (cross_abs hs hr.dlt)).1 (by decide) rfl d.2.2 (by rw [← d.1]; exact d.2.1)]
  unfold addQ
  rw [if_pos ⟨okr, oks⟩]
  simp
theorem subS_ok (x y : SI) : okS (subS x y) = true := by unfold subS; split; exact ofZ_ok _; exact zeroS_ok
theorem numQ_neg {s : QI} (oks : okQ s = true) : (negQ s).2 = true ∧ okQ (negQ s).1 = true ∧ numQ (negQ s).1 = -(numQ s) ∧ denQ (negQ s).1 = denQ s := by
  have h := parts_of oks
  have e : negQ s = ((negS s.1, s.2), true) := by unfold negQ; rw [if_pos oks]
  rw [e]
  have hv := negS_val h.okn
  have hp := okQ_parts oks
  have habs : nval (negS s.1).2 = nval s.1.2 ∧ (negS s.1).2.length = s.1.2.length := by
    have e2 : (negS s.1).2 = limbs (valS s.1).natAbs := by
      unfold negS
      rw [if_pos h.okn]
      have := ofZ_short (z := -(valS s.1)) (k := 18) (by rw [Int.natAbs_neg, valS_abs _ (okS_parts h.okn).1]; exact h.nlt) (by decide)
      rw [this.2.2, Int.natAbs_neg]
    have e3 : s.1.2 = limbs (valS s.1).natAbs := by
      rw [valS_abs _ (okS_parts h.okn).1]
      exact natOk_limbs (okS_parts h.okn).1
    rw [e2, ← e3]
    exact ⟨rfl, rfl⟩
  refine ⟨rfl, ?_, hv, rfl⟩
  unfold okQ
  rw [negS_ok, h.okd]
  simp only [Bool.true_and, decide_eq_true_eq]
  rw [habs.1, habs.2]
  exact ⟨hp.2.2.1, hp.2.2.2.1, hp.2.2.2.2.1, hp.2.2.2.2.2⟩
theorem subQ_make {r s : QI} (hr : Parts r) (hs : Parts s) (okr : okQ r = true) (oks : okQ s = true) : makeQ (subS (leftS r s) (leftS s r)) (denS r s) = subQ r s := by
  have l := leftS_eq hr hs
  have m := leftS_eq hs hr
  have d := denS_eq hr hs
  have e : subS (leftS r s) (leftS s r) = ofZ (numQ r * denQ s - numQ s * denQ r) := by
    unfold subS
    rw [if_pos ⟨l.2.1, m.2.1⟩, l.2.2, m.2.2]
  have n := numQ_neg oks
  rw [e, d.1, makeQ_ofZ (sum_abs (cross_abs hr hs.dlt) (cross_abs hs hr.dlt)).2 (by decide) rfl d.2.2 (by rw [← d.1]; exact d.2.1)]
  unfold subQ addQ
  rw [if_pos n.1, if_pos ⟨okr, n.2.1⟩, n.2.2.1, n.2.2.2, Int.neg_mul, ← Int.sub_eq_add_neg]
  simp
theorem sign_of {q : QI} (h : Parts q) : q.1.1 = decide (numQ q < 0) := okS_sign h.okn
theorem bne_lt {a b : Bool} : (a != b) = (a != b) := rfl
theorem lowQ_sign {n m : Bool} {a b : Nat} (h : a ≠ 0 → n = m) : lowQ n a b = lowQ m a b := by
  by_cases ha : a = 0
  · subst ha
    unfold lowQ
    have e : ∀ k : Bool, mkS k (limbs (0 / Nat.gcd 0 b)) = zeroS := fun k => by
      rw [Nat.zero_div, mkS_limbs]
      cases k <;> exact ofZ_zero
    rw [e, e]
  · rw [h ha]
theorem mulQ_make {r s : QI} (hr : Parts r) (hs : Parts s) (okr : okQ r = true) (oks : okQ s = true) : makeQ (topS r s) (denS r s) = mulQ r s := by
  have t := topS_eq hr hs
  have d := denS_eq hr hs
  rw [t.1, d.1, makeQ_ofZ t.2.1 (by decide) rfl d.2.2 (by rw [← d.1]; exact d.2.1), t.2.2]
  unfold mulQ
  rw [if_pos ⟨okr, oks⟩]
  refine lowQ_sign fun h => ?_
  have hr0 : topN r ≠ 0 := fun e => h (by rw [e, Nat.zero_mul])
  have hs0 : topN s ≠ 0 := fun e => h (by rw [e, Nat.mul_zero])
  rw [hr.top, hs.top]
  have p : 0 < (topN r : Int) * (topN s : Int) := Int.mul_pos (by omega) (by omega)
  have e : decide ((if r.1.1 = true then -(topN r : Int) else topN r) * (if s.1.1 = true then -(topN s : Int) else topN s) < 0) = (r.1.1 != s.1.1) := by
    cases r.1.1 <;> cases s.1.1 <;> simp [Int.neg_mul, Int.mul_neg] <;> omega
  rw [e]
  cases (r.1.1 != s.1.1) <;> rfl
theorem divQ_make {r s : QI} (hr : Parts r) (hs : Parts s) (okr : okQ r = true) (oks : okQ s = true) : makeQ (leftS r s) (leftS s r) = divQ r s := by
  have l := leftS_eq hr hs
  have m := leftS_eq hs hr
  have h1 := ofZ_short (cross_abs hr hs.dlt) (by decide)
  have h2 := ofZ_short (cross_abs hs hr.dlt) (by decide)
  have a1 : (numQ r * denQ s).natAbs = topN r * denQ s := by rw [Int.natAbs_mul, hr.top, Int.natAbs_natCast]; congr 1; split <;> omega
  have a2 : (numQ s * denQ r).natAbs = denQ r * topN s := by rw [Int.natAbs_mul, hs.top, Int.natAbs_natCast, Nat.mul_comm]; congr 1; split <;> omega
  unfold makeQ divQ
  rw [if_pos ⟨l.2.1, m.2.1⟩, if_pos ⟨okr, oks⟩, l.1, m.1, h1.2.2, h2.2.2]
  simp only
  rw [limbs_val, limbs_val, Int.toNat_natCast, Int.toNat_natCast, a1, a2]
  by_cases hs0 : topN s = 0
  · have e : (denQ r * topN s) = 0 := by rw [hs0, Nat.mul_zero]
    have e2 : denQ r * (nval s.1.2).toNat = 0 := e
    rw [e, e2]
    unfold lowQ
    simp
  · refine lowQ_sign fun h => ?_
    have hr0 : topN r ≠ 0 := fun e => h (by rw [e, Nat.zero_mul])
    have p1 : 0 < (topN r : Int) * (denQ s : Int) := Int.mul_pos (by omega) (by have := hs.pos; omega)
    have p2 : 0 < (topN s : Int) * (denQ r : Int) := Int.mul_pos (by omega) (by have := hr.pos; omega)
    have e1 : decide (numQ r * denQ s < 0) = r.1.1 := by rw [hr.top]; cases r.1.1 <;> simp [Int.neg_mul] <;> omega
    have e2 : decide (numQ s * denQ r < 0) = s.1.1 := by rw [hs.top]; cases s.1.1 <;> simp [Int.neg_mul] <;> omega
    rw [e1, e2]
theorem cmpQ_make {r s : QI} (hr : Parts r) (hs : Parts s) (okr : okQ r = true) (oks : okQ s = true) : cmpS (leftS r s) (leftS s r) = cmpQ r s := by
  have l := leftS_eq hr hs
  have m := leftS_eq hs hr
  unfold cmpS cmpQ
  rw [if_pos ⟨l.2.1, m.2.1⟩, if_pos ⟨okr, oks⟩, l.2.2, m.2.2]
end Go.Proofs.YthfkdofnoomhaaaGreatDoor

namespace Go.Proofs
open Go.Shelf
def Tryz.lays169_ren : Go.Shelf.Ren := ⟨fun | 169 => 167 | n => n, fun | 70 => 165 | 9 => 9 | 0 => 0 | 72 => 167 | 37 => 51 | 127 => 199 | 3 => 3 | 5 => 5 | n => n, fun | n => n⟩
theorem Tryz.lays169 : Go.Proofs.Lays.n169 Tryz.prog Tryz.lays169_ren := {
  mixed := by kernel_rfl
  f169 := Tryz.func167.trans (congrArg some (by kernel_rfl))
  t0 := Tryz.underlying0
  a0 := Tryz.isAgg0
  z0 := Tryz.sizeOf0
  v0 := Tryz.zeroValue0
  t3 := Tryz.underlying3
  a3 := Tryz.isAgg3
  z3 := Tryz.sizeOf3
  v3 := Tryz.zeroValue3
  t9 := Tryz.underlying9
  a9 := Tryz.isAgg9
  z9 := Tryz.sizeOf9
  v9 := Tryz.zeroValue9
  t37 := Tryz.underlying51
  a37 := Tryz.isAgg51
  z37 := Tryz.sizeOf51
  v37 := Tryz.zeroValue51
  t70 := Tryz.underlying165
  a70 := Tryz.isAgg165
  z70 := Tryz.sizeOf165
  v70 := Tryz.zeroValue165
  t72 := Tryz.underlying167
  a72 := Tryz.isAgg167
  z72 := Tryz.sizeOf167
  v72 := Tryz.zeroValue167
  t127 := Tryz.underlying199
  a127 := Tryz.isAgg199
  z127 := Tryz.sizeOf199
  v127 := Tryz.zeroValue199 }
theorem Tryz.Builder_Extra_169 : Builder.Extra Tryz.prog Tryz.lays169_ren := {
  sizeBuilder := by kernel_rfl
  liesBuilder := by kernel_rfl
  t5 := Tryz.underlying5
  a5 := Tryz.isAgg5
  z5 := Tryz.sizeOf5
  v5 := Tryz.zeroValue5
  infoByte := by kernel_rfl
  cellsByte := by kernel_rfl
  sizeByte := by kernel_rfl
  neB5 := by decide }
def Tryz.lays231_ren : Go.Shelf.Ren := ⟨fun | 231 => 159 | n => n, fun | 9 => 9 | 5 => 5 | 3 => 3 | 4 => 4 | n => n, fun | n => n⟩
theorem Tryz.lays231 : Go.Proofs.Lays.n231 Tryz.prog Tryz.lays231_ren := {
  mixed := by kernel_rfl
  f231 := Tryz.func159.trans (congrArg some (by kernel_rfl))
  t3 := Tryz.underlying3
  a3 := Tryz.isAgg3
  z3 := Tryz.sizeOf3
  v3 := Tryz.zeroValue3
  t4 := Tryz.underlying4
  a4 := Tryz.isAgg4
  z4 := Tryz.sizeOf4
  v4 := Tryz.zeroValue4
  t5 := Tryz.underlying5
  a5 := Tryz.isAgg5
  z5 := Tryz.sizeOf5
  v5 := Tryz.zeroValue5
  t9 := Tryz.underlying9
  a9 := Tryz.isAgg9
  z9 := Tryz.sizeOf9
  v9 := Tryz.zeroValue9 }
open Go.RowKit in
theorem Tryz.strings_trimLeftByte (s : ByteArray) (c : UInt8) (w : World) :
    Calls Tryz.prog 159 #[.string s, .int .u8 c.toNat] w fun e w' => e = .returned (.string ⟨(Lib.trimLeftB s.data.toList c).toArray⟩) ∧ w' = w := Any.strings_trimLeftByte Tryz.lays231 s c w
def Tryz.lays134_ren : Go.Shelf.Ren := ⟨fun | 134 => 242 | 129 => 244 | n => n, fun | 53 => 211 | 3 => 3 | 4 => 4 | 46 => 195 | 5 => 5 | 9 => 9 | n => n, fun | n => n⟩
theorem Tryz.lays134 : Go.Proofs.Lays.n134 Tryz.prog Tryz.lays134_ren := {
  mixed := by kernel_rfl
  f129 := Tryz.func244.trans (congrArg some (by kernel_rfl))
  f134 := Tryz.func242.trans (congrArg some (by kernel_rfl))
  t3 := Tryz.underlying3
  a3 := Tryz.isAgg3
  z3 := Tryz.sizeOf3
  v3 := Tryz.zeroValue3
  t4 := Tryz.underlying4
  a4 := Tryz.isAgg4
  z4 := Tryz.sizeOf4
  v4 := Tryz.zeroValue4
  t5 := Tryz.underlying5
  a5 := Tryz.isAgg5
  z5 := Tryz.sizeOf5
  v5 := Tryz.zeroValue5
  t9 := Tryz.underlying9
  a9 := Tryz.isAgg9
  z9 := Tryz.sizeOf9
  v9 := Tryz.zeroValue9
  t46 := Tryz.underlying195
  a46 := Tryz.isAgg195
  z46 := Tryz.sizeOf195
  v46 := Tryz.zeroValue195
  t53 := Tryz.underlying211
  a53 := Tryz.isAgg211
  z53 := Tryz.sizeOf211
  v53 := Tryz.zeroValue211 }
theorem Tryz.bits_LeadingZeros64 (x : Int) (w : World) (h0 : 0 ≤ x) (h1 : x ≤ 18446744073709551615) :
    Calls Tryz.prog 242 #[.int .u64 x] w fun e w' => e = .returned (.int .i64 (64 - (Lib.bitLen x.toNat : Int))) ∧ w' = w := Any.bits_LeadingZeros64 Tryz.lays134 x w h0 h1
def Tryz.lays103_ren : Go.Shelf.Ren := ⟨fun | 103 => 90 | 210 => 154 | 206 => 195 | n => n, fun | 9 => 9 | 4 => 4 | 24 => 109 | 3 => 3 | n => n, fun | n => n⟩
theorem Tryz.lays103 : Go.Proofs.Lays.n103 Tryz.prog Tryz.lays103_ren := {
  mixed := by kernel_rfl
  f103 := Tryz.func90.trans (congrArg some (by kernel_rfl))
  f206 := Tryz.func195.trans (congrArg some (by kernel_rfl))
  f210 := Tryz.func154.trans (congrArg some (by kernel_rfl))
  t3 := Tryz.underlying3
  a3 := Tryz.isAgg3
  z3 := Tryz.sizeOf3
  v3 := Tryz.zeroValue3
  t4 := Tryz.underlying4
  a4 := Tryz.isAgg4
  z4 := Tryz.sizeOf4
  v4 := Tryz.zeroValue4
  t9 := Tryz.underlying9
  a9 := Tryz.isAgg9
  z9 := Tryz.sizeOf9
  v9 := Tryz.zeroValue9
  t24 := Tryz.underlying109
  a24 := Tryz.isAgg109
  z24 := Tryz.sizeOf109
  v24 := Tryz.zeroValue109 }
open Go.RowKit in
theorem Tryz.strings_CutPrefix (s p : ByteArray) (w : World) :
    Calls Tryz.prog 90 #[.string s, .string p] w fun e w' => e = .returned (.tuple #[.string ⟨(Lib.trimPrefix s.data.toList p.data.toList).toArray⟩, .bool (Lib.hasPrefix s.data.toList p.data.toList)]) ∧ w' = w := Any.strings_CutPrefix Tryz.lays103 s p w
open Go.RowKit in
theorem Tryz.Builder_String_any_k (B b : Nat) (l : List UInt8) (w : World) (h : Lib.IsBuilderF 167 5 B b (Lib.byteCells l) w) (hBw : B ≤ w.heap.size) :
    Calls Tryz.prog 167 #[.pointer (some ⟨b, 0, none⟩)] w fun e w' => e = .returned (.string ⟨l.toArray⟩) ∧ (Lib.IsBuilderF 167 5 B b (Lib.byteCells l) w' ∧ Below B w w' ∧ Lib.OthersKept 5 (some b) w w') := Any.Builder_String_any_k Tryz.lays169 Tryz.Builder_Extra_169 B b l w h hBw
def Tryz.laysM171_ren : Go.Shelf.Ren := ⟨fun | 171 => 205 | 243 => 226 | 246 => 235 | 283 => 238 | 284 => 239 | 285 => 240 | 286 => 241 | 129 => 244 | 317 => 243 | 318 => 245 | 319 => 246 | 320 => 247 | 337 => 248 | 338 => 249 | n => n, fun | 3 => 3 | 9 => 9 | 2 => 2 | 4 => 4 | 171 => 236 | 0 => 0 | 53 => 211 | 37 => 51 | 5 => 5 | 173 => 239 | 212 => 242 | 51 => 208 | 20 => 20 | 213 => 243 | 46 => 195 | 232 => 246 | 233 => 247 | n => n, fun | 17 => 6 | 18 => 7 | 19 => 8 | n => n⟩
theorem Tryz.laysM171 : Go.Proofs.LaysM.n171 Tryz.prog Tryz.laysM171_ren := {
  mixed := by kernel_rfl
  f129 := Tryz.func244.trans (congrArg some (by kernel_rfl))
  f171 := Tryz.func205.trans (congrArg some (by kernel_rfl))
  f243 := Tryz.func226.trans (congrArg some (by kernel_rfl))
  f246 := Tryz.func235.trans (congrArg some (by kernel_rfl))
  f283 := Tryz.func238.trans (congrArg some (by kernel_rfl))
  f284 := Tryz.func239.trans (congrArg some (by kernel_rfl))
  f285 := Tryz.func240.trans (congrArg some (by kernel_rfl))
  f286 := Tryz.func241.trans (congrArg some (by kernel_rfl))
  f317 := Tryz.func243.trans (congrArg some (by kernel_rfl))
  f318 := Tryz.func245.trans (congrArg some (by kernel_rfl))
  f319 := Tryz.func246.trans (congrArg some (by kernel_rfl))
  f320 := Tryz.func247.trans (congrArg some (by kernel_rfl))
  f337 := Tryz.func248.trans (congrArg some (by kernel_rfl))
  f338 := Tryz.func249.trans (congrArg some (by kernel_rfl))
  t0 := Tryz.underlying0
  a0 := Tryz.isAgg0
  z0 := Tryz.sizeOf0
  v0 := Tryz.zeroValue0
  t2 := Tryz.underlying2
  a2 := Tryz.isAgg2
  z2 := Tryz.sizeOf2
  v2 := Tryz.zeroValue2
  t3 := Tryz.underlying3
  a3 := Tryz.isAgg3
  z3 := Tryz.sizeOf3
  v3 := Tryz.zeroValue3
  t4 := Tryz.underlying4
  a4 := Tryz.isAgg4
  z4 := Tryz.sizeOf4
  v4 := Tryz.zeroValue4
  t5 := Tryz.underlying5
  a5 := Tryz.isAgg5
  z5 := Tryz.sizeOf5
  v5 := Tryz.zeroValue5
  t9 := Tryz.underlying9
  a9 := Tryz.isAgg9
  z9 := Tryz.sizeOf9
  v9 := Tryz.zeroValue9
  t20 := Tryz.underlying20
  a20 := Tryz.isAgg20
  z20 := Tryz.sizeOf20
  v20 := Tryz.zeroValue20
  t37 := Tryz.underlying51
  a37 := Tryz.isAgg51
  z37 := Tryz.sizeOf51
  v37 := Tryz.zeroValue51
  t46 := Tryz.underlying195
  a46 := Tryz.isAgg195
  z46 := Tryz.sizeOf195
  v46 := Tryz.zeroValue195
  t51 := Tryz.underlying208
  a51 := Tryz.isAgg208
  z51 := Tryz.sizeOf208
  v51 := Tryz.zeroValue208
  t53 := Tryz.underlying211
  a53 := Tryz.isAgg211
  z53 := Tryz.sizeOf211
  v53 := Tryz.zeroValue211
  t171 := Tryz.underlying236
  a171 := Tryz.isAgg236
  z171 := Tryz.sizeOf236
  v171 := Tryz.zeroValue236
  t173 := Tryz.underlying239
  a173 := Tryz.isAgg239
  z173 := Tryz.sizeOf239
  v173 := Tryz.zeroValue239
  t212 := Tryz.underlying242
  a212 := Tryz.isAgg242
  z212 := Tryz.sizeOf242
  v212 := Tryz.zeroValue242
  t213 := Tryz.underlying243
  a213 := Tryz.isAgg243
  z213 := Tryz.sizeOf243
  t232 := Tryz.underlying246
  a232 := Tryz.isAgg246
  z232 := Tryz.sizeOf246
  v232 := Tryz.zeroValue246
  t233 := Tryz.underlying247
  a233 := Tryz.isAgg247
  z233 := Tryz.sizeOf247
  v233 := Tryz.zeroValue247
  g17 := by kernel_rfl
  g18 := by kernel_rfl
  g19 := by kernel_rfl
  i0 := by kernel_rfl
  i2 := by kernel_rfl
  i3 := by kernel_rfl
  i4 := by kernel_rfl
  i5 := by kernel_rfl
  i9 := by kernel_rfl
  i20 := by kernel_rfl
  i37 := by kernel_rfl
  i46 := by kernel_rfl
  i51 := by kernel_rfl
  i53 := by kernel_rfl
  i171 := by kernel_rfl
  i173 := by kernel_rfl
  i212 := by kernel_rfl
  i232 := by kernel_rfl
  i233 := by kernel_rfl
  m17 := by kernel_rfl
  m18 := by kernel_rfl
  m19 := by kernel_rfl }
open Go.RowKit Go.Sort Go.Lib in
theorem Tryz.strconv_Itoa (n : Int) (h0 : -9223372036854775808 ≤ n) (h1 : n ≤ 9223372036854775807) (w : World) (htab : Lib.TabIs Tryz.prog w "internal/strconv.uint64pow10" .u64 Lib.pow10Tab) :
    Calls Tryz.prog 205 #[.int .i64 n] w fun e w' => e = .returned (.string ⟨(Lib.itoa n).toArray⟩) ∧ ∃ k os, w' = grow (w.drewN k) os := Any.strconv_Itoa Tryz.laysM171 n h0 h1 w htab
def Tryz.lays219_ren : Go.Shelf.Ren := ⟨fun | 219 => 196 | 217 => 217 | 225 => 218 | 224 => 219 | 267 => 220 | 266 => 230 | 314 => 231 | n => n, fun | 9 => 9 | 3 => 3 | 4 => 4 | 5 => 5 | 46 => 195 | 146 => 209 | 51 => 208 | n => n, fun | 1 => 1 | n => n⟩
theorem Tryz.lays219 : Go.Proofs.Lays.n219 Tryz.prog Tryz.lays219_ren := {
  mixed := by kernel_rfl
  f217 := Tryz.func217.trans (congrArg some (by kernel_rfl))
  f219 := Tryz.func196.trans (congrArg some (by kernel_rfl))
  f224 := Tryz.func219.trans (congrArg some (by kernel_rfl))
  f225 := Tryz.func218.trans (congrArg some (by kernel_rfl))
  f266 := Tryz.func230.trans (congrArg some (by kernel_rfl))
  f267 := Tryz.func220.trans (congrArg some (by kernel_rfl))
  f314 := Tryz.func231.trans (congrArg some (by kernel_rfl))
  t3 := Tryz.underlying3
  a3 := Tryz.isAgg3
  z3 := Tryz.sizeOf3
  v3 := Tryz.zeroValue3
  t4 := Tryz.underlying4
  a4 := Tryz.isAgg4
  z4 := Tryz.sizeOf4
  v4 := Tryz.zeroValue4
  t5 := Tryz.underlying5
  a5 := Tryz.isAgg5
  z5 := Tryz.sizeOf5
  v5 := Tryz.zeroValue5
  t9 := Tryz.underlying9
  a9 := Tryz.isAgg9
  z9 := Tryz.sizeOf9
  v9 := Tryz.zeroValue9
  t46 := Tryz.underlying195
  a46 := Tryz.isAgg195
  z46 := Tryz.sizeOf195
  v46 := Tryz.zeroValue195
  t51 := Tryz.underlying208
  a51 := Tryz.isAgg208
  z51 := Tryz.sizeOf208
  v51 := Tryz.zeroValue208
  t146 := Tryz.underlying209
  a146 := Tryz.isAgg209
  z146 := Tryz.sizeOf209
  v146 := Tryz.zeroValue209
  g1 := by kernel_rfl }
open Go.RowKit Go.Lib in
theorem Tryz.stringslite_Index_one (s : ByteArray) (c : UInt8) (w : World) :
    Calls Tryz.prog 196 #[.string s, .string ⟨#[c]⟩] w fun e w' => e = .returned (.int .i64 (Lib.indexByte s.data.toList c)) ∧ w' = w := Any.stringslite_Index_one Tryz.lays219 s c w
def Tryz.lays264_ren : Go.Shelf.Ren := ⟨fun | 264 => 224 | n => n, fun | 53 => 211 | 46 => 195 | n => n, fun | n => n⟩
theorem Tryz.lays264 : Go.Proofs.Lays.n264 Tryz.prog Tryz.lays264_ren := {
  mixed := by kernel_rfl
  f264 := Tryz.func224.trans (congrArg some (by kernel_rfl))
  t46 := Tryz.underlying195
  a46 := Tryz.isAgg195
  z46 := Tryz.sizeOf195
  v46 := Tryz.zeroValue195
  t53 := Tryz.underlying211
  a53 := Tryz.isAgg211
  z53 := Tryz.sizeOf211
  v53 := Tryz.zeroValue211 }
open Go.RowKit Go.Lib in
theorem Tryz.bits_Mul64 (x y : Nat) (hx : x < 18446744073709551616) (hy : y < 18446744073709551616) (w : World) :
    Calls Tryz.prog 224 #[.int .u64 x, .int .u64 y] w fun e w' => e = .returned (.tuple #[.int .u64 ((x * y / 18446744073709551616 : Nat) : Int), .int .u64 ((x * y % 18446744073709551616 : Nat) : Int)]) ∧ w' = w := Any.bits_Mul64 Tryz.lays264 x y hx hy w
def Tryz.lays105_ren : Go.Shelf.Ren := ⟨fun | 105 => 163 | 212 => 201 | 99 => 202 | 165 => 203 | 166 => 166 | 170 => 204 | 169 => 167 | 263 => 223 | 264 => 224 | 206 => 195 | 240 => 206 | 241 => 225 | 276 => 227 | 277 => 234 | n => n, fun | 9 => 9 | 3 => 3 | 4 => 4 | 20 => 20 | 0 => 0 | 46 => 195 | 109 => 196 | 5 => 5 | 72 => 167 | 76 => 170 | 51 => 208 | 146 => 209 | 53 => 211 | 148 => 212 | 70 => 165 | 37 => 51 | 75 => 169 | 127 => 199 | 164 => 214 | 80 => 172 | n => n, fun | n => n⟩
theorem Tryz.lays105 : Go.Proofs.Lays.n105 Tryz.prog Tryz.lays105_ren := {
  mixed := by kernel_rfl
  f99 := Tryz.func202.trans (congrArg some (by kernel_rfl))
  f105 := Tryz.func163.trans (congrArg some (by kernel_rfl))
  f165 := Tryz.func203.trans (congrArg some (by kernel_rfl))
  f166 := Tryz.func166.trans (congrArg some (by kernel_rfl))
  f169 := Tryz.func167.trans (congrArg some (by kernel_rfl))
  f170 := Tryz.func204.trans (congrArg some (by kernel_rfl))
  f206 := Tryz.func195.trans (congrArg some (by kernel_rfl))
  f212 := Tryz.func201.trans (congrArg some (by kernel_rfl))
  f240 := Tryz.func206.trans (congrArg some (by kernel_rfl))
  f241 := Tryz.func225.trans (congrArg some (by kernel_rfl))
  f263 := Tryz.func223.trans (congrArg some (by kernel_rfl))
  f264 := Tryz.func224.trans (congrArg some (by kernel_rfl))
  f276 := Tryz.func227.trans (congrArg some (by kernel_rfl))
  f277 := Tryz.func234.trans (congrArg some (by kernel_rfl))
  t0 := Tryz.underlying0
  a0 := Tryz.isAgg0
  z0 := Tryz.sizeOf0
  v0 := Tryz.zeroValue0
  t3 := Tryz.underlying3
  a3 := Tryz.isAgg3
  z3 := Tryz.sizeOf3
  v3 := Tryz.zeroValue3
  t4 := Tryz.underlying4
  a4 := Tryz.isAgg4
  z4 := Tryz.sizeOf4
  v4 := Tryz.zeroValue4
  t5 := Tryz.underlying5
  a5 := Tryz.isAgg5
  z5 := Tryz.sizeOf5
  v5 := Tryz.zeroValue5
  t9 := Tryz.underlying9
  a9 := Tryz.isAgg9
  z9 := Tryz.sizeOf9
  v9 := Tryz.zeroValue9
  t20 := Tryz.underlying20
  a20 := Tryz.isAgg20
  z20 := Tryz.sizeOf20
  v20 := Tryz.zeroValue20
  t37 := Tryz.underlying51
  a37 := Tryz.isAgg51
  z37 := Tryz.sizeOf51
  v37 := Tryz.zeroValue51
  t46 := Tryz.underlying195
  a46 := Tryz.isAgg195
  z46 := Tryz.sizeOf195
  v46 := Tryz.zeroValue195
  t51 := Tryz.underlying208
  a51 := Tryz.isAgg208
  z51 := Tryz.sizeOf208
  v51 := Tryz.zeroValue208
  t53 := Tryz.underlying211
  a53 := Tryz.isAgg211
  z53 := Tryz.sizeOf211
  v53 := Tryz.zeroValue211
  t70 := Tryz.underlying165
  a70 := Tryz.isAgg165
  z70 := Tryz.sizeOf165
  v70 := Tryz.zeroValue165
  t72 := Tryz.underlying167
  a72 := Tryz.isAgg167
  z72 := Tryz.sizeOf167
  v72 := Tryz.zeroValue167
  t75 := Tryz.underlying169
  a75 := Tryz.isAgg169
  z75 := Tryz.sizeOf169
  v75 := Tryz.zeroValue169
  t76 := Tryz.underlying170
  a76 := Tryz.isAgg170
  z76 := Tryz.sizeOf170
  v76 := Tryz.zeroValue170
  t109 := Tryz.underlying196
  a109 := Tryz.isAgg196
  z109 := Tryz.sizeOf196
  v109 := Tryz.zeroValue196
  t127 := Tryz.underlying199
  a127 := Tryz.isAgg199
  z127 := Tryz.sizeOf199
  v127 := Tryz.zeroValue199
  t146 := Tryz.underlying209
  a146 := Tryz.isAgg209
  z146 := Tryz.sizeOf209
  v146 := Tryz.zeroValue209
  t148 := Tryz.underlying212
  a148 := Tryz.isAgg212
  z148 := Tryz.sizeOf212
  v148 := Tryz.zeroValue212
  t164 := Tryz.underlying214
  a164 := Tryz.isAgg214
  z164 := Tryz.sizeOf214
  v164 := Tryz.zeroValue214 }
theorem Tryz.Builder_Extra_105 : Builder.Extra Tryz.prog Tryz.lays105_ren := {
  sizeBuilder := by kernel_rfl
  liesBuilder := by kernel_rfl
  t5 := Tryz.underlying5
  a5 := Tryz.isAgg5
  z5 := Tryz.sizeOf5
  v5 := Tryz.zeroValue5
  infoByte := by kernel_rfl
  cellsByte := by kernel_rfl
  sizeByte := by kernel_rfl
  neB5 := by decide }
open Go.RowKit Go.Lib in
theorem Tryz.strings_Repeat (s : ByteArray) (c : Nat) (w : World) (hc : c ≤ 9223372036854775807) (hlen : s.size * c ≤ 140737488355328) :
    Calls Tryz.prog 163 #[.string s, .int .i64 c] w fun e w' => e = .returned (.string ⟨(Lib.repeatL s.data.toList c).toArray⟩) ∧ Below w.heap.size w w' := Any.strings_Repeat Tryz.lays105 Tryz.Builder_Extra_105 s c w hc hlen
end Go.Proofs
