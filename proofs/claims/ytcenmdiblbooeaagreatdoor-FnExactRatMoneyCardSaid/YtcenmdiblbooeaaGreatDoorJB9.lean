/-
  Chapter 6 of package spec: RatMake, RatInt, RatZero, RatCmp and RatSign.
  Chapter 6 of package spec: sums of fractions.
  What RatNeg of package spec returns.
  Chapter 7 of package spec: what its functions return.
  What RatSub of package spec returns.
  RatRest of package spec.
  Chapter 10 of package spec: RatMoney.
-/
import Derived.Deep.DeepCutAuto
import Derived.Laws.OwnMore
import Derived.Deep.RegionLaw
import Derived.Deep.AppendLies
import Derived.Deep.RegionHeld3
import Derived.Test.YtcenmdiblbooeaaGreatDoorJB8
namespace Go.Proofs.YtcenmdiblbooeaaGreatDoor
open Go.RowKit

set_option maxHeartbeats 2000000 in
set_option maxRecDepth 100000 in
theorem specRatMake_any (va vb : Value) (a b : SI) (w : World) (hza : szS a ≤ 1048576) (hzb : szS b ≤ 1048576) (ha : OwnS va a w) (hb : OwnS vb b w) :
    Calls Tryz.prog 130 #[va, vb] w (PostQb (makeQ a b).1 (makeQ a b).2 w) := by
  have Ha := Lib.hid ha
  obtain ⟨Aa, ca, rfl⟩ := ownS_form ha
  have OSa := Lib.hid (show ∀ W, Below w.heap.size w W → OwnS (.agg #[.bool a.1, .slice Aa a.2.length ca]) a W from fun W hb => OwnS.below Ha.out hb)
  have OIa := Lib.hid (show ∀ W, Below w.heap.size w W → OwnI (.slice Aa a.2.length ca) a.2 W from fun W hb => ownS_open (OSa.out W hb))
  clear ha
  have Hb := Lib.hid hb
  obtain ⟨Ab, cb, rfl⟩ := ownS_form hb
  have OSb := Lib.hid (show ∀ W, Below w.heap.size w W → OwnS (.agg #[.bool b.1, .slice Ab b.2.length cb]) b W from fun W hb => OwnS.below Hb.out hb)
  have OIb := Lib.hid (show ∀ W, Below w.heap.size w W → OwnI (.slice Ab b.2.length cb) b.2 W from fun W hb => ownS_open (OSb.out W hb))
  clear hb
  have hla : a.2.length ≤ 1048576 := by unfold szS szI at hza; omega
  have hlb : b.2.length ≤ 1048576 := by unfold szS szI at hzb; omega
  clear hza hzb
  have bb0 : Below w.heap.size w (((w.alloc (.cells #[.bool a.1, .slice Aa a.2.length ca] 25)).alloc (.cells #[.bool b.1, .slice Ab b.2.length cb] 25)).alloc (.cells #[.bool false, .slice none 0 0, .slice none 0 0] 51)) := below_al (below_al (below_al (Below.refl _ _) _) _) _
  have ka := (box_new w #[.bool a.1, .slice Aa a.2.length ca] 25).below (below_al (below_al (Below.refl _ _) (.cells #[.bool b.1, .slice Ab b.2.length cb] 25)) (.cells #[.bool false, .slice none 0 0, .slice none 0 0] 51))
  have kb := (box_new (w.alloc (.cells #[.bool a.1, .slice Aa a.2.length ca] 25)) #[.bool b.1, .slice Ab b.2.length cb] 25).below (below_al (Below.refl _ _) (.cells #[.bool false, .slice none 0 0, .slice none 0 0] 51))
  rw [show (w.alloc (.cells #[.bool a.1, .slice Aa a.2.length ca] 25)).heap.size = w.heap.size + 1 by simp] at kb
  have ko := (box_new ((w.alloc (.cells #[.bool a.1, .slice Aa a.2.length ca] 25)).alloc (.cells #[.bool b.1, .slice Ab b.2.length cb] 25)) #[.bool false, .slice none 0 0, .slice none 0 0] 51)
  rw [show ((w.alloc (.cells #[.bool a.1, .slice Aa a.2.length ca] 25)).alloc (.cells #[.bool b.1, .slice Ab b.2.length cb] 25)).heap.size = w.heap.size + 1 + 1 by simp] at ko
  go_enter Tryz.func130, Tryz.ntmps130
  have ka_c0 := ka.here.cell 0 _ rfl
  have ka_c1 := ka.here.cell 1 _ rfl
  go_wp2_with fail
  clear ka_c0 ka_c1
  refine (specIntOk_any _ a _ hla (OwnS.rd (OSa.out _ bb0))).mono ?_
  rintro e w1 ⟨rfl, b1⟩
  have bb1 := Below.next bb0 b1
  replace ka := ka.below b1
  replace kb := kb.below b1
  replace ko := ko.below b1
  by_cases oka : okS a = true
  · rw [oka]
    have HOa := Lib.hid oka
    clear oka
    have kb_c0 := kb.here.cell 0 _ rfl
    have kb_c1 := kb.here.cell 1 _ rfl
    go_wp2_with fail
    clear kb_c0 kb_c1
    refine (specIntOk_any _ b _ hlb (OwnS.rd (OSb.out _ bb1))).mono ?_
    rintro e w2 ⟨rfl, b2⟩
    have bb2 := Below.next bb1 b2
    replace ka := ka.below b2
    replace kb := kb.below b2
    replace ko := ko.below b2
    by_cases okb : okS b = true
    · rw [okb]
      have HOb := Lib.hid okb
      clear okb
      have HKO := Lib.hid (ko.lt (w.heap.size + 1 + 1) (by simp))
      have Ea := Lib.hid (natOk_limbs (okS_parts HOa.out).1)
      have Eb := Lib.hid (natOk_limbs (okS_parts HOb.out).1)
      obtain ⟨Na, hNa⟩ : ∃ Na, (nval a.2).toNat = Na := ⟨_, rfl⟩
      have Ea := Lib.hid (show a.2 = limbs Na by rw [← hNa]; exact natOk_limbs (okS_parts HOa.out).1)
      have La := Lib.hid (show (limbs Na).length ≤ 50 by rw [← Ea.out]; exact (natOk_parts (okS_parts HOa.out).1).2.1)
      obtain ⟨Nb, hNb⟩ : ∃ Nb, (nval b.2).toNat = Nb := ⟨_, rfl⟩
      have Eb := Lib.hid (show b.2 = limbs Nb by rw [← hNb]; exact natOk_limbs (okS_parts HOb.out).1)
      have Lb := Lib.hid (show (limbs Nb).length ≤ 50 by rw [← Eb.out]; exact (natOk_parts (okS_parts HOb.out).1).2.1)
      have HV := Lib.hid (show makeQ a b = lowQ (!(a.1 == b.1)) Na Nb by unfold makeQ; rw [if_pos ⟨HOa.out, HOb.out⟩, hNa, hNb]; rfl)
      clear hNa hNb
      have ka_c0 := ka.here.cell 0 _ rfl
      have ka_c1 := ka.here.cell 1 _ rfl
      have kb_c0 := kb.here.cell 0 _ rfl
      have kb_c1 := kb.here.cell 1 _ rfl
      go_wp2_with fail
      clear ka_c0 ka_c1 kb_c0 kb_c1
      refine (lowX_any _ _ _ a.2 b.2 Na Nb _ La.out Lb.out Ea.out Eb.out (OIa.out _ bb2) (OIb.out _ bb2)).mono ?_
      rintro e w3 ⟨uf, Sf, rfl, of, lf, b3⟩
      obtain ⟨Af, cf, Bf, df, rfl⟩ := ownQ_form of.here
      have bb3 := Below.next bb2 b3
      replace ka := ka.below b3
      replace kb := kb.below b3
      replace ko := ko.below b3
      have HW := Lib.hid (newQb_at (r := w.heap.size + 1 + 1) (b := (lowQ (!(a.1 == b.1)) Na Nb).2) of lf (by have := HKO.out; omega) (by omega) bb3)
      have cz0 := ko.here.cell 0 _ rfl
      have fz0 := Lib.frozen_of_heap ko.here 0
      have cz1 := ko.here.cell 1 _ rfl
      have fz1 := Lib.frozen_of_heap ko.here 1
      have cz2 := ko.here.cell 2 _ rfl
      have fz2 := Lib.frozen_of_heap ko.here 2
      clear of ko
      go_wp2
      refine bodyPost_ret (v := .tuple #[.agg #[.bool _, .slice Af _ cf, .slice Bf _ df], .bool _]) (by simp [results, Tryz.results130, go_sem, cz0, cz1, cz2]; exact ⟨⟨rfl, rfl, rfl⟩, rfl⟩) rfl ?_
      rw [HV.out]
      exact HW.out
    · have okb' : okS b = false := by simpa using okb
      have HV := Lib.hid (show makeQ a b = (zeroQ, false) by unfold makeQ; rw [if_neg (fun h => okb h.2)])
      rw [okb']
      clear okb okb'
      have ko_c0 := ko.here.cell 0 _ rfl
      have ko_c1 := ko.here.cell 1 _ rfl
      have ko_c2 := ko.here.cell 2 _ rfl
      have cz0 := ko.here.cell 0 _ rfl
      have fz0 := Lib.frozen_of_heap ko.here 0
      have cz1 := ko.here.cell 1 _ rfl
      have fz1 := Lib.frozen_of_heap ko.here 1
      have cz2 := ko.here.cell 2 _ rfl
      have fz2 := Lib.frozen_of_heap ko.here 2
      go_wp2
      refine bodyPost_ret (v := .tuple #[.agg #[.bool false, .slice none 0 0, .slice none 0 0], .bool false]) (by simp [results, Tryz.results130, go_sem, cz0, cz1, cz2]) rfl ?_
      rw [HV.out]
      first | exact newQb_zero _ bb2 | exact newQb_zero _ (below_set3 bb2 (by omega))
  · have oka' : okS a = false := by simpa using oka
    have HV := Lib.hid (show makeQ a b = (zeroQ, false) by unfold makeQ; rw [if_neg (fun h => oka h.1)])
    rw [oka']
    clear oka oka'
    have ko_c0 := ko.here.cell 0 _ rfl
    have ko_c1 := ko.here.cell 1 _ rfl
    have ko_c2 := ko.here.cell 2 _ rfl
    have cz0 := ko.here.cell 0 _ rfl
    have fz0 := Lib.frozen_of_heap ko.here 0
    have cz1 := ko.here.cell 1 _ rfl
    have fz1 := Lib.frozen_of_heap ko.here 1
    have cz2 := ko.here.cell 2 _ rfl
    have fz2 := Lib.frozen_of_heap ko.here 2
    go_wp2
    refine bodyPost_ret (v := .tuple #[.agg #[.bool false, .slice none 0 0, .slice none 0 0], .bool false]) (by simp [results, Tryz.results130, go_sem, cz0, cz1, cz2]) rfl ?_
    rw [HV.out]
    first | exact newQb_zero _ bb1 | exact newQb_zero _ (below_set3 bb1 (by omega))
set_option maxHeartbeats 2000000 in
set_option maxRecDepth 100000 in
theorem specRatInt_any (va : Value) (a : SI) (w : World) (hza : szS a ≤ 1048576) (ha : OwnS va a w) :
    Calls Tryz.prog 92 #[va] w (PostQb (makeQ a (ofZ 1)).1 (makeQ a (ofZ 1)).2 w) := by
  have Ha := Lib.hid ha
  obtain ⟨Aa, ca, rfl⟩ := ownS_form ha
  have OSa := Lib.hid (show ∀ W, Below w.heap.size w W → OwnS (.agg #[.bool a.1, .slice Aa a.2.length ca]) a W from fun W hb => OwnS.below Ha.out hb)
  have OIa := Lib.hid (show ∀ W, Below w.heap.size w W → OwnI (.slice Aa a.2.length ca) a.2 W from fun W hb => ownS_open (OSa.out W hb))
  clear ha
  have bb0 : Below w.heap.size w ((w.alloc (.cells #[.bool a.1, .slice Aa a.2.length ca] 25)).alloc (.cells #[.bool false, .slice none 0 0, .slice none 0 0] 51)) := below_al (below_al (Below.refl _ _) _) _
  have ka := (box_new w #[.bool a.1, .slice Aa a.2.length ca] 25).below (below_al (Below.refl _ _) (.cells #[.bool false, .slice none 0 0, .slice none 0 0] 51))
  have ko := (box_new (w.alloc (.cells #[.bool a.1, .slice Aa a.2.length ca] 25)) #[.bool false, .slice none 0 0, .slice none 0 0] 51)
  rw [show (w.alloc (.cells #[.bool a.1, .slice Aa a.2.length ca] 25)).heap.size = w.heap.size + 1 by simp] at ko
  have HKO := Lib.hid (ko.lt (w.heap.size + 1) (by simp))
  obtain ⟨Q, hQ⟩ : ∃ Q, makeQ a (ofZ 1) = Q := ⟨_, rfl⟩
  have EQ := Lib.hid hQ
  rw [hQ]
  clear hQ
  obtain ⟨W0, hW0⟩ : ∃ W0, W0 = ((w.alloc (.cells #[.bool a.1, .slice Aa a.2.length ca] 25)).alloc (.cells #[.bool false, .slice none 0 0, .slice none 0 0] 51)) := ⟨_, rfl⟩
  rw [← hW0] at bb0 ka ko HKO
  have HW0 := Lib.hid hW0
  clear hW0
  have hz0 := HKO.out
  go_enter Tryz.func92, Tryz.ntmps92
  have ka_c0 := ka.here.cell 0 _ rfl
  have ka_c1 := ka.here.cell 1 _ rfl
  go_wp2_with fail
  rw [← HW0.out]
  have HC0 := Lib.hid (show Chg [w.heap.size + 1] W0 W0.drew from (Chg.refl _ _).drew1)
  have HCr := Lib.hid (show Chg [w.heap.size + 1] W0 W0 from Chg.refl _ _)
  have KL := Lib.hid (show ∀ W, Chg [w.heap.size + 1] W0 W → W.cell? ⟨w.heap.size, 0, none⟩ = some (.bool a.1) ∧ W.cell? ⟨w.heap.size, 1, none⟩ = some (.slice Aa a.2.length ca) ∧ Hid (Chg [w.heap.size + 1] W0 W) from fun W hc => ⟨(ka.chg hc (fun i hi hm => by simp at hi hm; omega)).here.cell 0 _ rfl, (ka.chg hc (fun i hi hm => by simp at hi hm; omega)).here.cell 1 _ rfl, Lib.hid hc⟩)
  have BBF := Lib.hid (show ∀ W, Chg [w.heap.size + 1] W0 W → Below w.heap.size w W from fun W hc => below_chg bb0 hc bb0.size (fun i hi => by simp at hi; omega))
  clear ka_c0 ka_c1
  go_region_held3 (fun W => W.cell? ⟨w.heap.size, 0, none⟩ = some (.bool a.1) ∧ W.cell? ⟨w.heap.size, 1, none⟩ = some (.slice Aa a.2.length ca) ∧ Hid (Chg [w.heap.size + 1] W0 W))
    ((refine KL.out _ ?_; (first | exact HC2.out | exact HC1.out | exact HCr.out | exact HC0.out | exact HC2.out.drew1 | exact HC1.out.drew1 | exact HCr.out.drew1 | exact HC0.out.drew1 | exact HC2.out.trans (Chg.of_below (below_al (Below.refl _ _) _)) | exact HC1.out.trans (Chg.of_below (below_al (Below.refl _ _) _)) | exact HCr.out.trans (Chg.of_below (below_al (Below.refl _ _) _)) | exact HC0.out.trans (Chg.of_below (below_al (Below.refl _ _) _)) | exact (Chg.setCell HC2.out (by simp) _) | exact (Chg.setCell (Chg.setCell HC2.out (by simp) _) (by simp) _) | exact (Chg.setCell (Chg.setCell (Chg.setCell HC2.out (by simp) _) (by simp) _) (by simp) _) | fail)))
    (first
      | (go_at_call 66; (have hBB := (‹_ ∧ _ ∧ Hid (Chg [w.heap.size + 1] W0 _)›).2.2); (with_reducible refine ((specIntOf_any 1 _ (by decide) (by decide)).mono fun _ _ h => NewS.newV h).mono ?_); rintro e w1 ⟨ui, Si, rfl, oi, li, b1⟩; have HC1 := Lib.hid (hBB.out.trans (Chg.of_below b1)); (have ko_1 := At.below (by first | exact ko | exact At.below ko (below_al (Below.refl _ _) _) | exact At.below (At.below ko (below_al (Below.refl _ _) _)) (below_al (Below.refl _ _) _) | exact At.move ko (fun _ _ => rfl) (Nat.le_refl _)) b1); obtain ⟨Ai, ci, rfl⟩ := ownS_form oi.here; have HBZ1 := Lib.hid hBB.out.size; clear hBB)
      | (go_at_call 130; (have hBB := (‹_ ∧ _ ∧ Hid (Chg [w.heap.size + 1] W0 _)›).2.2); (with_reducible refine ((specRatMake_any _ _ a (ofZ 1) _ hza one_szS (OSa.out _ (BBF.out _ hBB.out)) (At.here (by first | exact oi | exact At.below oi (below_al (Below.refl _ _) _) | exact At.below (At.below oi (below_al (Below.refl _ _) _)) (below_al (Below.refl _ _) _) | exact At.move oi (fun _ _ => rfl) (Nat.le_refl _)))).mono fun _ _ h => postQb_eq EQ.out h).mono ?_); rintro e w2 ⟨uf, Sf, rfl, of, lf, b2⟩; have HC2 := Lib.hid (hBB.out.trans (Chg.of_below b2)); (have ko_2 := At.below (by first | exact ko_1 | exact At.below ko_1 (below_al (Below.refl _ _) _) | exact At.below (At.below ko_1 (below_al (Below.refl _ _) _)) (below_al (Below.refl _ _) _) | exact At.move ko_1 (fun _ _ => rfl) (Nat.le_refl _)) b2); (have oi_2 := At.below (by first | exact oi | exact At.below oi (below_al (Below.refl _ _) _) | exact At.below (At.below oi (below_al (Below.refl _ _) _)) (below_al (Below.refl _ _) _) | exact At.move oi (fun _ _ => rfl) (Nat.le_refl _)) b2); obtain ⟨Af, cf, Bf, df, rfl⟩ := ownQ_form of.here; have cz0 := ko_2.here.cell 0 _ rfl; have fz0 := Lib.frozen_of_heap ko_2.here 0; have cz1 := ko_2.here.cell 1 _ rfl; have fz1 := Lib.frozen_of_heap ko_2.here 1; have cz2 := ko_2.here.cell 2 _ rfl; have fz2 := Lib.frozen_of_heap ko_2.here 2; have HBZ2 := Lib.hid hBB.out.size; clear hBB))
  have bb2 := BBF.out _ HC2.out
  replace ka := ka.chg HC2.out (fun i hi hm => by simp at hi hm; omega)
  replace ko := ko_2
  have oi := oi_2
  have HW := Lib.hid (newQb_at (r := w.heap.size + 1) (b := Q.2) of lf (by have := HBZ2.out; omega) (by omega) bb2)
  clear of ko ka oi
  go_wp2
  refine bodyPost_ret (v := .tuple #[.agg #[.bool _, .slice Af _ cf, .slice Bf _ df], .bool _]) (by simp [results, Tryz.results92, go_sem, cz0, cz1, cz2]; exact ⟨⟨rfl, rfl, rfl⟩, rfl⟩) rfl ?_
  exact HW.out
end Go.Proofs.YtcenmdiblbooeaaGreatDoor

namespace Go.Proofs.YtcenmdiblbooeaaGreatDoor
open Go.RowKit

set_option maxHeartbeats 2000000 in
set_option maxRecDepth 100000 in
theorem specRatAdd_any (vr : Value) (vs : Value) (r s : QI) (w : World) (hzr : szQ r ≤ 1048576) (hzs : szQ s ≤ 1048576) (hr : OwnQ vr r w) (hs : OwnQ vs s w) :
    Calls Tryz.prog 132 #[vr, vs] w (PostQb (addQ r s).1 (addQ r s).2 w) := by
  have Hr := Lib.hid hr
  obtain ⟨Ar, cr, Br, dr, rfl⟩ := ownQ_form hr
  have OQr := Lib.hid (show ∀ W, Below w.heap.size w W → OwnQ (.agg #[.bool r.1.1, .slice Ar r.1.2.length cr, .slice Br r.2.length dr]) r W from fun W hb => OwnQ.below Hr.out hb)
  have OUr := Lib.hid (show ∀ W, Below w.heap.size w W → OwnI (.slice Ar r.1.2.length cr) r.1.2 W from fun W hb => (ownQ_open (OQr.out W hb)).2.1)
  have ODr := Lib.hid (show ∀ W, Below w.heap.size w W → OwnI (.slice Br r.2.length dr) r.2 W from fun W hb => (ownQ_open (OQr.out W hb)).2.2.1)
  have OSr := Lib.hid (show ∀ W, Below w.heap.size w W → OwnS (.agg #[.bool r.1.1, .slice Ar r.1.2.length cr]) r.1 W from fun W hb => OwnS.mk (OUr.out W hb))
  clear hr
  have Hs := Lib.hid hs
  obtain ⟨As, cs, Bs, ds, rfl⟩ := ownQ_form hs
  have OQs := Lib.hid (show ∀ W, Below w.heap.size w W → OwnQ (.agg #[.bool s.1.1, .slice As s.1.2.length cs, .slice Bs s.2.length ds]) s W from fun W hb => OwnQ.below Hs.out hb)
  have OUs := Lib.hid (show ∀ W, Below w.heap.size w W → OwnI (.slice As s.1.2.length cs) s.1.2 W from fun W hb => (ownQ_open (OQs.out W hb)).2.1)
  have ODs := Lib.hid (show ∀ W, Below w.heap.size w W → OwnI (.slice Bs s.2.length ds) s.2 W from fun W hb => (ownQ_open (OQs.out W hb)).2.2.1)
  have OSs := Lib.hid (show ∀ W, Below w.heap.size w W → OwnS (.agg #[.bool s.1.1, .slice As s.1.2.length cs]) s.1 W from fun W hb => OwnS.mk (OUs.out W hb))
  clear hs
  have hlr := szQ_len hzr
  have hl1r := hlr.1
  have hl2r := hlr.2
  clear hlr
  have hls := szQ_len hzs
  have hl1s := hls.1
  have hl2s := hls.2
  clear hls
  have bb0 : Below w.heap.size w (((w.alloc (.cells #[.bool r.1.1, .slice Ar r.1.2.length cr, .slice Br r.2.length dr] 51)).alloc (.cells #[.bool s.1.1, .slice As s.1.2.length cs, .slice Bs s.2.length ds] 51)).alloc (.cells #[.bool false, .slice none 0 0, .slice none 0 0] 51)) := below_al (below_al (below_al (Below.refl _ _) _) _) _
  have kr := (box_new w #[.bool r.1.1, .slice Ar r.1.2.length cr, .slice Br r.2.length dr] 51).below (below_al (below_al (Below.refl _ _) (.cells #[.bool s.1.1, .slice As s.1.2.length cs, .slice Bs s.2.length ds] 51)) (.cells #[.bool false, .slice none 0 0, .slice none 0 0] 51))
  have ks := (box_new (w.alloc (.cells #[.bool r.1.1, .slice Ar r.1.2.length cr, .slice Br r.2.length dr] 51)) #[.bool s.1.1, .slice As s.1.2.length cs, .slice Bs s.2.length ds] 51).below (below_al (Below.refl _ _) (.cells #[.bool false, .slice none 0 0, .slice none 0 0] 51))
  rw [show (w.alloc (.cells #[.bool r.1.1, .slice Ar r.1.2.length cr, .slice Br r.2.length dr] 51)).heap.size = w.heap.size + 1 by simp] at ks
  have ko := (box_new ((w.alloc (.cells #[.bool r.1.1, .slice Ar r.1.2.length cr, .slice Br r.2.length dr] 51)).alloc (.cells #[.bool s.1.1, .slice As s.1.2.length cs, .slice Bs s.2.length ds] 51)) #[.bool false, .slice none 0 0, .slice none 0 0] 51)
  rw [show ((w.alloc (.cells #[.bool r.1.1, .slice Ar r.1.2.length cr, .slice Br r.2.length dr] 51)).alloc (.cells #[.bool s.1.1, .slice As s.1.2.length cs, .slice Bs s.2.length ds] 51)).heap.size = w.heap.size + 1 + 1 by simp] at ko
  go_enter Tryz.func132, Tryz.ntmps132
  have kr_c0 := kr.here.cell 0 _ rfl
  have kr_c1 := kr.here.cell 1 _ rfl
  have kr_c2 := kr.here.cell 2 _ rfl
  go_wp2_with fail
  clear kr_c0 kr_c1 kr_c2
  refine (specRatOk_any _ r _ hzr (OQr.out _ bb0)).mono ?_
  rintro e w1 ⟨rfl, b1⟩
  have bb1 := Below.next bb0 b1
  replace kr := kr.below b1
  replace ks := ks.below b1
  replace ko := ko.below b1
  by_cases okr : okQ r = true
  · rw [okr]
    have HOr := Lib.hid okr
    clear okr
    have ks_c0 := ks.here.cell 0 _ rfl
    have ks_c1 := ks.here.cell 1 _ rfl
    have ks_c2 := ks.here.cell 2 _ rfl
    go_wp2_with fail
    clear ks_c0 ks_c1 ks_c2
    refine (specRatOk_any _ s _ hzs (OQs.out _ bb1)).mono ?_
    rintro e w2 ⟨rfl, b2⟩
    have bb2 := Below.next bb1 b2
    replace kr := kr.below b2
    replace ks := ks.below b2
    replace ko := ko.below b2
    by_cases oks : okQ s = true
    · rw [oks]
      have HOs := Lib.hid oks
      clear oks
      have Pr := parts_of HOr.out
      have Ps := parts_of HOs.out
      have HPr := Lib.hid Pr
      have HPs := Lib.hid Ps
      have hnr := Pr.n50
      have hns := Ps.n50
      have hdr := Pr.d50
      have hds := Ps.d50
      clear Pr Ps
      obtain ⟨X1, hEX1⟩ : ∃ X1, (nval (r.1.2) * nval (s.2)).toNat = X1 := ⟨_, rfl⟩
      have EX1 := Lib.hid hEX1
      have PX1 := Lib.hid (show X1 = topN r * denQ s by rw [← hEX1, mul_toNat (okS_parts HPr.out.okn).1 HPs.out.okd]; rfl)
      have LX1 := Lib.hid (show (limbs X1).length ≤ 36 by rw [PX1.out]; exact prod_len HPr.out.nlt HPs.out.dlt)
      clear hEX1
      obtain ⟨X2, hEX2⟩ : ∃ X2, (nval (s.1.2) * nval (r.2)).toNat = X2 := ⟨_, rfl⟩
      have EX2 := Lib.hid hEX2
      have PX2 := Lib.hid (show X2 = topN s * denQ r by rw [← hEX2, mul_toNat (okS_parts HPs.out.okn).1 HPr.out.okd]; rfl)
      have LX2 := Lib.hid (show (limbs X2).length ≤ 36 by rw [PX2.out]; exact prod_len HPs.out.nlt HPr.out.dlt)
      clear hEX2
      obtain ⟨X3, hEX3⟩ : ∃ X3, (nval (r.2) * nval (s.2)).toNat = X3 := ⟨_, rfl⟩
      have EX3 := Lib.hid hEX3
      have PX3 := Lib.hid (show X3 = denQ r * denQ s by rw [← hEX3, mul_toNat HPr.out.okd HPs.out.okd]; rfl)
      have LX3 := Lib.hid (show (limbs X3).length ≤ 36 by rw [PX3.out]; exact prod_len HPr.out.dlt HPs.out.dlt)
      clear hEX3
      obtain ⟨P1, hEP1⟩ : ∃ P1, mkS r.1.1 (limbs X1) = P1 := ⟨_, rfl⟩
      have EP1 := Lib.hid hEP1
      have VP1 := Lib.hid (show okS P1 = true ∧ valS P1 = numQ r * denQ s ∧ P1.2.length ≤ 50 ∧ -(bp 36) < valS P1 ∧ valS P1 < bp 36 by
        rw [← hEP1, PX1.out]
        have h1 := cross_ofZ (n := r.1.1) (X := topN r) (Y := denQ s)
        have h2 := cross_val (n := r.1.1) HPr.out.nlt HPs.out.dlt
        have h3 := cross_lt (n := r.1.1) HPr.out.nlt HPs.out.dlt
        have h4 : valS (mkS r.1.1 (limbs (topN r * denQ s))) = numQ r * denQ s := by rw [h2, HPr.out.top]
        exact ⟨h1.2.1, h4, h1.2.2, by rw [h2]; exact h3.1, by rw [h2]; exact h3.2⟩)
      clear hEP1
      obtain ⟨P2, hEP2⟩ : ∃ P2, mkS s.1.1 (limbs X2) = P2 := ⟨_, rfl⟩
      have EP2 := Lib.hid hEP2
      have VP2 := Lib.hid (show okS P2 = true ∧ valS P2 = numQ s * denQ r ∧ P2.2.length ≤ 50 ∧ -(bp 36) < valS P2 ∧ valS P2 < bp 36 by
        rw [← hEP2, PX2.out]
        have h1 := cross_ofZ (n := s.1.1) (X := topN s) (Y := denQ r)
        have h2 := cross_val (n := s.1.1) HPs.out.nlt HPr.out.dlt
        have h3 := cross_lt (n := s.1.1) HPs.out.nlt HPr.out.dlt
        have h4 : valS (mkS s.1.1 (limbs (topN s * denQ r))) = numQ s * denQ r := by rw [h2, HPs.out.top]
        exact ⟨h1.2.1, h4, h1.2.2, by rw [h2]; exact h3.1, by rw [h2]; exact h3.2⟩)
      clear hEP2
      obtain ⟨N, hN⟩ : ∃ N, ofZ (valS P1 + valS P2) = N := ⟨_, rfl⟩
      have EN := Lib.hid hN
      have b37 := bp37
      have SN := sum_ofZ (z := valS P1 + valS P2) (by have := VP1.out; have := VP2.out; omega) (by have := VP1.out; have := VP2.out; omega)
      obtain ⟨X4, hX4⟩ : ∃ X4, (valS P1 + valS P2).natAbs = X4 := ⟨_, rfl⟩
      rw [hN, hX4] at SN
      have N1 := Lib.hid (show N.1 = decide (numQ r * denQ s + numQ s * denQ r < 0) by rw [SN.1, VP1.out.2.1, VP2.out.2.1])
      have N2 := Lib.hid (show N.2 = limbs X4 by rw [SN.1])
      have L4 := Lib.hid SN.2
      have HV := Lib.hid (show addQ r s = lowQ N.1 X4 X3 by unfold addQ; rw [if_pos ⟨HOr.out, HOs.out⟩, N1.out, ← hX4, VP1.out.2.1, VP2.out.2.1, PX3.out])
      clear hN hX4 SN b37
      have hkr := kr.lt _ (List.mem_singleton.2 rfl)
      have hks := ks.lt _ (List.mem_singleton.2 rfl)
      have hko := ko.lt (w.heap.size + 1 + 1) (by simp)
      have kr_c0 := kr.here.cell 0 _ rfl
      have kr_c1 := kr.here.cell 1 _ rfl
      have kr_c2 := kr.here.cell 2 _ rfl
      have ks_c0 := ks.here.cell 0 _ rfl
      have ks_c1 := ks.here.cell 1 _ rfl
      have ks_c2 := ks.here.cell 2 _ rfl
      go_upto_region 7 with fail
      go_cut [6] (fun s wx => NewLocV 25 (fun v => OwnS v P1) w2 s wx)
      case first =>
        have HC0 := Lib.hid (show Chg [] w2 w2.drew from (Chg.refl _ _).drew1)
        have HCr := Lib.hid (show Chg [] w2 w2 from Chg.refl _ _)
        have KL := Lib.hid (show ∀ W, Chg [] w2 W → W.cell? ⟨w.heap.size, 0, none⟩ = some (.bool r.1.1) ∧ W.cell? ⟨w.heap.size, 1, none⟩ = some (.slice Ar r.1.2.length cr) ∧ W.cell? ⟨w.heap.size, 2, none⟩ = some (.slice Br r.2.length dr) ∧ W.cell? ⟨w.heap.size + 1, 0, none⟩ = some (.bool s.1.1) ∧ W.cell? ⟨w.heap.size + 1, 1, none⟩ = some (.slice As s.1.2.length cs) ∧ W.cell? ⟨w.heap.size + 1, 2, none⟩ = some (.slice Bs s.2.length ds) ∧ Hid (Chg [] w2 W) from fun W hc => ⟨(kr.chg hc (fun i hi hm => by simp at hm)).here.cell 0 _ rfl, (kr.chg hc (fun i hi hm => by simp at hm)).here.cell 1 _ rfl, (kr.chg hc (fun i hi hm => by simp at hm)).here.cell 2 _ rfl, (ks.chg hc (fun i hi hm => by simp at hm)).here.cell 0 _ rfl, (ks.chg hc (fun i hi hm => by simp at hm)).here.cell 1 _ rfl, (ks.chg hc (fun i hi hm => by simp at hm)).here.cell 2 _ rfl, Lib.hid hc⟩)
        have BBF := Lib.hid (show ∀ W, Chg [] w2 W → Below w.heap.size w W from fun W hc => below_chg bb2 hc bb2.size (fun i hi => by simp at hi))
        clear kr_c0 kr_c1 kr_c2 ks_c0 ks_c1 ks_c2
        go_region_held3 (fun W => W.cell? ⟨w.heap.size, 0, none⟩ = some (.bool r.1.1) ∧ W.cell? ⟨w.heap.size, 1, none⟩ = some (.slice Ar r.1.2.length cr) ∧ W.cell? ⟨w.heap.size, 2, none⟩ = some (.slice Br r.2.length dr) ∧ W.cell? ⟨w.heap.size + 1, 0, none⟩ = some (.bool s.1.1) ∧ W.cell? ⟨w.heap.size + 1, 1, none⟩ = some (.slice As s.1.2.length cs) ∧ W.cell? ⟨w.heap.size + 1, 2, none⟩ = some (.slice Bs s.2.length ds) ∧ Hid (Chg [] w2 W))
          ((refine KL.out _ ?_; (first | exact HC4.out | exact HC3.out | exact HCr.out | exact HC0.out | exact HC4.out.drew1 | exact HC3.out.drew1 | exact HCr.out.drew1 | exact HC0.out.drew1 | exact HC4.out.trans (Chg.of_below (below_al (Below.refl _ _) _)) | exact HC3.out.trans (Chg.of_below (below_al (Below.refl _ _) _)) | exact HCr.out.trans (Chg.of_below (below_al (Below.refl _ _) _)) | exact HC0.out.trans (Chg.of_below (below_al (Below.refl _ _) _)) | exact (Chg.setNew HC4.out (by first | exact HC4.out.size | exact HC3.out.size | exact HCr.out.size | exact HC0.out.size) _) | exact (Chg.setNew (Chg.setNew HC4.out (by first | exact HC4.out.size | exact HC3.out.size | exact HCr.out.size | exact HC0.out.size) _) (by first | exact HC4.out.size | exact HC3.out.size | exact HCr.out.size | exact HC0.out.size) _) | fail)))
          (first
            | (go_at_call 169; (have hBB := (‹_ ∧ _ ∧ _ ∧ _ ∧ _ ∧ _ ∧ Hid (Chg [] w2 _)›).2.2.2.2.2.2); (with_reducible refine (mulX_any _ _ (r.1.2) (s.2) X1 _ hnr hds ((okS_parts HPr.out.okn).1) (HPs.out.okd) EX1.out (OUr.out _ (BBF.out _ hBB.out)) (ODs.out _ (BBF.out _ hBB.out))).mono ?_); rintro e w3 ⟨um, Sm, rfl, om, lm, b3⟩; have HC3 := Lib.hid (hBB.out.trans (Chg.of_below b3)); obtain ⟨Em, em, rfl⟩ := own_len om.here; (first | (have early3 : At [w2.heap.size] (BoxAt w2.heap.size #[.bool false, .slice none 0 0] 25) w3 := At.below (box_new w2.drew _ _) b3) | (have early3 := At.below (box_new _ #[.bool false, .slice none 0 0] 25) b3) | (have early3 := At.below early2 b3) | skip); have HBZ3 := Lib.hid hBB.out.size; clear hBB)
            | (go_at_call 67; (have hBB := (‹_ ∧ _ ∧ _ ∧ _ ∧ _ ∧ _ ∧ Hid (Chg [] w2 _)›).2.2.2.2.2.2); (with_reducible refine (makeX_any _ _ X1 P1 _ (Nat.le_trans LX1.out (by decide)) EP1.out (At.here (by first | exact om | exact At.below om (below_al (Below.refl _ _) _) | exact At.below (At.below om (below_al (Below.refl _ _) _)) (below_al (Below.refl _ _) _) | exact At.move om (fun _ _ => rfl) (Nat.le_refl _)))).mono ?_); rintro e w4 ⟨uf, Sf, rfl, of, lf, b4⟩; have HC4 := Lib.hid (hBB.out.trans (Chg.of_below b4)); (have om_4 := At.below (by first | exact om | exact At.below om (below_al (Below.refl _ _) _) | exact At.below (At.below om (below_al (Below.refl _ _) _)) (below_al (Below.refl _ _) _) | exact At.move om (fun _ _ => rfl) (Nat.le_refl _)) b4); obtain ⟨Af, cf, rfl⟩ := ownS_form of.here; (first | have hbxg := At.below_lt (box_new _ #[.bool false, .slice none 0 0] 25) b4 | have hbxg := At.below_lt early3 b4 | skip); (try (have hbxf := hbxg.1; have HGB := Lib.hid hbxg.2; clear hbxg)); (try (have cz0 := hbxf.here.cell 0 _ rfl; have fz0 := Lib.frozen_of_heap hbxf.here 0; have cz1 := hbxf.here.cell 1 _ rfl; have fz1 := Lib.frozen_of_heap hbxf.here 1)); have HBZ4 := Lib.hid hBB.out.size; clear hBB))
        all_goals (go_wp2_with fail; go_meet; first | exact newLocV_last of lf HBZ4.out (below_of_chg HC4.out) | exact newLocV_early2 hbxf.here of lf (by first | exact HC3.out.size | exact HCr.out.size | exact HC0.out.size) HGB.out (below_of_chg HC4.out))
      rename World => w3
      clear kr_c0 kr_c1 kr_c2 ks_c0 ks_c1 ks_c2
      obtain ⟨ga, csa, Sa, rfl, ka, oa, na, la, b3⟩ := hcut
      obtain ⟨Aa, ca, ea⟩ := ownS_form oa.here
      injection ea with ea
      subst ea
      have bb3 := Below.next bb2 b3
      replace kr := kr.below b3
      replace ks := ks.below b3
      replace ko := ko.below b3
      have kr_c0 := kr.here.cell 0 _ rfl
      have kr_c1 := kr.here.cell 1 _ rfl
      have kr_c2 := kr.here.cell 2 _ rfl
      have ks_c0 := ks.here.cell 0 _ rfl
      have ks_c1 := ks.here.cell 1 _ rfl
      have ks_c2 := ks.here.cell 2 _ rfl
      go_upto_region 8 with fail
      go_cut [7] (fun s wx => NewLocV 25 (fun v => OwnS v P2) w3 s wx)
      case first =>
        have HC0 := Lib.hid (show Chg [] w3 w3.drew from (Chg.refl _ _).drew1)
        have HCr := Lib.hid (show Chg [] w3 w3 from Chg.refl _ _)
        have KL := Lib.hid (show ∀ W, Chg [] w3 W → W.cell? ⟨w.heap.size, 0, none⟩ = some (.bool r.1.1) ∧ W.cell? ⟨w.heap.size, 1, none⟩ = some (.slice Ar r.1.2.length cr) ∧ W.cell? ⟨w.heap.size, 2, none⟩ = some (.slice Br r.2.length dr) ∧ W.cell? ⟨w.heap.size + 1, 0, none⟩ = some (.bool s.1.1) ∧ W.cell? ⟨w.heap.size + 1, 1, none⟩ = some (.slice As s.1.2.length cs) ∧ W.cell? ⟨w.heap.size + 1, 2, none⟩ = some (.slice Bs s.2.length ds) ∧ Hid (Chg [] w3 W) from fun W hc => ⟨(kr.chg hc (fun i hi hm => by simp at hm)).here.cell 0 _ rfl, (kr.chg hc (fun i hi hm => by simp at hm)).here.cell 1 _ rfl, (kr.chg hc (fun i hi hm => by simp at hm)).here.cell 2 _ rfl, (ks.chg hc (fun i hi hm => by simp at hm)).here.cell 0 _ rfl, (ks.chg hc (fun i hi hm => by simp at hm)).here.cell 1 _ rfl, (ks.chg hc (fun i hi hm => by simp at hm)).here.cell 2 _ rfl, Lib.hid hc⟩)
        have BBF := Lib.hid (show ∀ W, Chg [] w3 W → Below w.heap.size w W from fun W hc => below_chg bb3 hc bb3.size (fun i hi => by simp at hi))
        clear kr_c0 kr_c1 kr_c2 ks_c0 ks_c1 ks_c2
        go_region_held3 (fun W => W.cell? ⟨w.heap.size, 0, none⟩ = some (.bool r.1.1) ∧ W.cell? ⟨w.heap.size, 1, none⟩ = some (.slice Ar r.1.2.length cr) ∧ W.cell? ⟨w.heap.size, 2, none⟩ = some (.slice Br r.2.length dr) ∧ W.cell? ⟨w.heap.size + 1, 0, none⟩ = some (.bool s.1.1) ∧ W.cell? ⟨w.heap.size + 1, 1, none⟩ = some (.slice As s.1.2.length cs) ∧ W.cell? ⟨w.heap.size + 1, 2, none⟩ = some (.slice Bs s.2.length ds) ∧ Hid (Chg [] w3 W))
          ((refine KL.out _ ?_; (first | exact HC5.out | exact HC4.out | exact HCr.out | exact HC0.out | exact HC5.out.drew1 | exact HC4.out.drew1 | exact HCr.out.drew1 | exact HC0.out.drew1 | exact HC5.out.trans (Chg.of_below (below_al (Below.refl _ _) _)) | exact HC4.out.trans (Chg.of_below (below_al (Below.refl _ _) _)) | exact HCr.out.trans (Chg.of_below (below_al (Below.refl _ _) _)) | exact HC0.out.trans (Chg.of_below (below_al (Below.refl _ _) _)) | exact (Chg.setNew HC5.out (by first | exact HC5.out.size | exact HC4.out.size | exact HCr.out.size | exact HC0.out.size) _) | exact (Chg.setNew (Chg.setNew HC5.out (by first | exact HC5.out.size | exact HC4.out.size | exact HCr.out.size | exact HC0.out.size) _) (by first | exact HC5.out.size | exact HC4.out.size | exact HCr.out.size | exact HC0.out.size) _) | fail)))
          (first
            | (go_at_call 169; (have hBB := (‹_ ∧ _ ∧ _ ∧ _ ∧ _ ∧ _ ∧ Hid (Chg [] w3 _)›).2.2.2.2.2.2); (with_reducible refine (mulX_any _ _ (s.1.2) (r.2) X2 _ hns hdr ((okS_parts HPs.out.okn).1) (HPr.out.okd) EX2.out (OUs.out _ (BBF.out _ hBB.out)) (ODr.out _ (BBF.out _ hBB.out))).mono ?_); rintro e w4 ⟨um, Sm, rfl, om, lm, b4⟩; have HC4 := Lib.hid (hBB.out.trans (Chg.of_below b4)); obtain ⟨Em, em, rfl⟩ := own_len om.here; (first | (have early4 : At [w3.heap.size] (BoxAt w3.heap.size #[.bool false, .slice none 0 0] 25) w4 := At.below (box_new w3.drew _ _) b4) | (have early4 := At.below (box_new _ #[.bool false, .slice none 0 0] 25) b4) | (have early4 := At.below early3 b4) | skip); have HBZ4 := Lib.hid hBB.out.size; clear hBB)
            | (go_at_call 67; (have hBB := (‹_ ∧ _ ∧ _ ∧ _ ∧ _ ∧ _ ∧ Hid (Chg [] w3 _)›).2.2.2.2.2.2); (with_reducible refine (makeX_any _ _ X2 P2 _ (Nat.le_trans LX2.out (by decide)) EP2.out (At.here (by first | exact om | exact At.below om (below_al (Below.refl _ _) _) | exact At.below (At.below om (below_al (Below.refl _ _) _)) (below_al (Below.refl _ _) _) | exact At.move om (fun _ _ => rfl) (Nat.le_refl _)))).mono ?_); rintro e w5 ⟨uf, Sf, rfl, of, lf, b5⟩; have HC5 := Lib.hid (hBB.out.trans (Chg.of_below b5)); (have om_5 := At.below (by first | exact om | exact At.below om (below_al (Below.refl _ _) _) | exact At.below (At.below om (below_al (Below.refl _ _) _)) (below_al (Below.refl _ _) _) | exact At.move om (fun _ _ => rfl) (Nat.le_refl _)) b5); obtain ⟨Af, cf, rfl⟩ := ownS_form of.here; (first | have hbxg := At.below_lt (box_new _ #[.bool false, .slice none 0 0] 25) b5 | have hbxg := At.below_lt early4 b5 | skip); (try (have hbxf := hbxg.1; have HGB := Lib.hid hbxg.2; clear hbxg)); (try (have cz0 := hbxf.here.cell 0 _ rfl; have fz0 := Lib.frozen_of_heap hbxf.here 0; have cz1 := hbxf.here.cell 1 _ rfl; have fz1 := Lib.frozen_of_heap hbxf.here 1)); have HBZ5 := Lib.hid hBB.out.size; clear hBB))
        all_goals (go_wp2_with fail; go_meet; first | exact newLocV_last of lf HBZ5.out (below_of_chg HC5.out) | exact newLocV_early2 hbxf.here of lf (by first | exact HC4.out.size | exact HCr.out.size | exact HC0.out.size) HGB.out (below_of_chg HC5.out))
      rename World => w4
      clear kr_c0 kr_c1 kr_c2 ks_c0 ks_c1 ks_c2
      obtain ⟨gb, csb, Sb, rfl, kb, ob, nb, lb, b4⟩ := hcut
      obtain ⟨Ab, cb, eb⟩ := ownS_form ob.here
      injection eb with eb
      subst eb
      have bb4 := Below.next bb3 b4
      replace kr := kr.below b4
      replace ks := ks.below b4
      replace ko := ko.below b4
      replace ka := ka.below b4
      replace oa := oa.below b4
      have ka_c0 := ka.here.cell 0 _ rfl
      have ka_c1 := ka.here.cell 1 _ rfl
      have kb_c0 := kb.here.cell 0 _ rfl
      have kb_c1 := kb.here.cell 1 _ rfl
      go_wp2_with fail
      clear ka_c0 ka_c1 kb_c0 kb_c1
      refine (addX_any _ _ P1 P2 N _ VP1.out.1 VP2.out.1 EN.out oa.here ob.here).mono ?_
      rintro e w5 ⟨un, Sn, rfl, on, ln, b5⟩
      obtain ⟨An, cn, rfl⟩ := ownS_form on.here
      have bb5 := Below.next bb4 b5
      replace kr := kr.below b5
      replace ks := ks.below b5
      replace ko := ko.below b5
      replace ka := ka.below b5
      replace oa := oa.below b5
      replace kb := kb.below b5
      replace ob := ob.below b5
      have kn := box_new w5 #[.bool N.1, .slice An N.2.length cn] 25
      have bbx := Below.next bb5 (below_al (Below.refl w5.heap.size w5) (.cells #[.bool N.1, .slice An N.2.length cn] 25))
      have hko2 := ko.lt (w.heap.size + 1 + 1) (by simp)
      replace kr := kr.below (below_al (Below.refl w5.heap.size w5) (.cells #[.bool N.1, .slice An N.2.length cn] 25))
      replace ks := ks.below (below_al (Below.refl w5.heap.size w5) (.cells #[.bool N.1, .slice An N.2.length cn] 25))
      replace ko := ko.below (below_al (Below.refl w5.heap.size w5) (.cells #[.bool N.1, .slice An N.2.length cn] 25))
      replace on := on.below (below_al (Below.refl w5.heap.size w5) (.cells #[.bool N.1, .slice An N.2.length cn] 25))
      obtain ⟨Wn, hWn⟩ : ∃ Wn, Wn = w5.alloc (.cells #[.bool N.1, .slice An N.2.length cn] 25) := ⟨_, rfl⟩
      rw [← hWn] at kn bbx kr ks ko on
      have HWN := Lib.hid hWn
      have hWz : Wn.heap.size = w5.heap.size + 1 := by rw [hWn]; simp
      clear hWn
      have kr_c0 := kr.here.cell 0 _ rfl
      have kr_c1 := kr.here.cell 1 _ rfl
      have kr_c2 := kr.here.cell 2 _ rfl
      have ks_c0 := ks.here.cell 0 _ rfl
      have ks_c1 := ks.here.cell 1 _ rfl
      have ks_c2 := ks.here.cell 2 _ rfl
      have kn_c0 := kn.here.cell 0 _ rfl
      have kn_c1 := kn.here.cell 1 _ rfl
      go_wp2_with fail
      rw [← HWN.out]
      clear kr_c0 kr_c1 kr_c2 ks_c0 ks_c1 ks_c2 kn_c0 kn_c1
      have HC0 := Lib.hid (show Chg [w.heap.size + 1 + 1] Wn Wn.drew from (Chg.refl _ _).drew1)
      have HCr := Lib.hid (show Chg [w.heap.size + 1 + 1] Wn Wn from Chg.refl _ _)
      have KL := Lib.hid (show ∀ W, Chg [w.heap.size + 1 + 1] Wn W → W.cell? ⟨w.heap.size, 0, none⟩ = some (.bool r.1.1) ∧ W.cell? ⟨w.heap.size, 1, none⟩ = some (.slice Ar r.1.2.length cr) ∧ W.cell? ⟨w.heap.size, 2, none⟩ = some (.slice Br r.2.length dr) ∧ W.cell? ⟨w.heap.size + 1, 0, none⟩ = some (.bool s.1.1) ∧ W.cell? ⟨w.heap.size + 1, 1, none⟩ = some (.slice As s.1.2.length cs) ∧ W.cell? ⟨w.heap.size + 1, 2, none⟩ = some (.slice Bs s.2.length ds) ∧ W.cell? ⟨w5.heap.size, 0, none⟩ = some (.bool N.1) ∧ W.cell? ⟨w5.heap.size, 1, none⟩ = some (.slice An N.2.length cn) ∧ Hid (Chg [w.heap.size + 1 + 1] Wn W) from fun W hc => ⟨(kr.chg hc (fun i hi hm => by simp at hi hm; omega)).here.cell 0 _ rfl, (kr.chg hc (fun i hi hm => by simp at hi hm; omega)).here.cell 1 _ rfl, (kr.chg hc (fun i hi hm => by simp at hi hm; omega)).here.cell 2 _ rfl, (ks.chg hc (fun i hi hm => by simp at hi hm; omega)).here.cell 0 _ rfl, (ks.chg hc (fun i hi hm => by simp at hi hm; omega)).here.cell 1 _ rfl, (ks.chg hc (fun i hi hm => by simp at hi hm; omega)).here.cell 2 _ rfl, (kn.chg hc (fun i hi hm => by simp at hi hm; omega)).here.cell 0 _ rfl, (kn.chg hc (fun i hi hm => by simp at hi hm; omega)).here.cell 1 _ rfl, Lib.hid hc⟩)
      have BBF := Lib.hid (show ∀ W, Chg [w.heap.size + 1 + 1] Wn W → Below w.heap.size w W from fun W hc => below_chg bbx hc bbx.size (fun i hi => by simp at hi; omega))
      go_region_held3 (fun W => W.cell? ⟨w.heap.size, 0, none⟩ = some (.bool r.1.1) ∧ W.cell? ⟨w.heap.size, 1, none⟩ = some (.slice Ar r.1.2.length cr) ∧ W.cell? ⟨w.heap.size, 2, none⟩ = some (.slice Br r.2.length dr) ∧ W.cell? ⟨w.heap.size + 1, 0, none⟩ = some (.bool s.1.1) ∧ W.cell? ⟨w.heap.size + 1, 1, none⟩ = some (.slice As s.1.2.length cs) ∧ W.cell? ⟨w.heap.size + 1, 2, none⟩ = some (.slice Bs s.2.length ds) ∧ W.cell? ⟨w5.heap.size, 0, none⟩ = some (.bool N.1) ∧ W.cell? ⟨w5.heap.size, 1, none⟩ = some (.slice An N.2.length cn) ∧ Hid (Chg [w.heap.size + 1 + 1] Wn W))
        ((refine KL.out _ ?_; (first | exact HC7.out | exact HC6.out | exact HCr.out | exact HC0.out | exact HC7.out.drew1 | exact HC6.out.drew1 | exact HCr.out.drew1 | exact HC0.out.drew1 | exact HC7.out.trans (Chg.of_below (below_al (Below.refl _ _) _)) | exact HC6.out.trans (Chg.of_below (below_al (Below.refl _ _) _)) | exact HCr.out.trans (Chg.of_below (below_al (Below.refl _ _) _)) | exact HC0.out.trans (Chg.of_below (below_al (Below.refl _ _) _)) | exact (Chg.setCell HC7.out (by simp) _) | exact (Chg.setCell (Chg.setCell HC7.out (by simp) _) (by simp) _) | exact (Chg.setCell (Chg.setCell (Chg.setCell HC7.out (by simp) _) (by simp) _) (by simp) _) | fail)))
        (first
          | (go_at_call 169; (have hBB := (‹_ ∧ _ ∧ _ ∧ _ ∧ _ ∧ _ ∧ _ ∧ _ ∧ Hid (Chg [w.heap.size + 1 + 1] Wn _)›).2.2.2.2.2.2.2.2); (with_reducible refine (mulX_any _ _ (r.2) (s.2) X3 _ hdr hds (HPr.out.okd) (HPs.out.okd) EX3.out (ODr.out _ (BBF.out _ hBB.out)) (ODs.out _ (BBF.out _ hBB.out))).mono ?_); rintro e w6 ⟨um, Sm, rfl, om, lm, b6⟩; have HC6 := Lib.hid (hBB.out.trans (Chg.of_below b6)); (have ko_6 := At.below (by first | exact ko | exact At.below ko (below_al (Below.refl _ _) _) | exact At.below (At.below ko (below_al (Below.refl _ _) _)) (below_al (Below.refl _ _) _) | exact At.move ko (fun _ _ => rfl) (Nat.le_refl _)) b6); (have on_6 := At.below (by first | exact on | exact At.below on (below_al (Below.refl _ _) _) | exact At.below (At.below on (below_al (Below.refl _ _) _)) (below_al (Below.refl _ _) _) | exact At.move on (fun _ _ => rfl) (Nat.le_refl _)) b6); obtain ⟨Em, em, rfl⟩ := own_len om.here; have HBZ6 := Lib.hid hBB.out.size; clear hBB)
          | (go_at_call 167; (have hBB := (‹_ ∧ _ ∧ _ ∧ _ ∧ _ ∧ _ ∧ _ ∧ _ ∧ Hid (Chg [w.heap.size + 1 + 1] Wn _)›).2.2.2.2.2.2.2.2); (with_reducible refine (lowX_any _ _ _ N.2 (limbs X3) X4 X3 _ (Nat.le_trans L4.out (by decide)) (Nat.le_trans LX3.out (by decide)) N2.out rfl (ownS_open (At.here (by first | exact on_6 | exact At.below on_6 (below_al (Below.refl _ _) _) | exact At.below (At.below on_6 (below_al (Below.refl _ _) _)) (below_al (Below.refl _ _) _) | exact At.move on_6 (fun _ _ => rfl) (Nat.le_refl _)))) (At.here (by first | exact om | exact At.below om (below_al (Below.refl _ _) _) | exact At.below (At.below om (below_al (Below.refl _ _) _)) (below_al (Below.refl _ _) _) | exact At.move om (fun _ _ => rfl) (Nat.le_refl _)))).mono ?_); rintro e w7 ⟨uf, Sf, rfl, of, lf, b7⟩; have HC7 := Lib.hid (hBB.out.trans (Chg.of_below b7)); (have ko_7 := At.below (by first | exact ko_6 | exact At.below ko_6 (below_al (Below.refl _ _) _) | exact At.below (At.below ko_6 (below_al (Below.refl _ _) _)) (below_al (Below.refl _ _) _) | exact At.move ko_6 (fun _ _ => rfl) (Nat.le_refl _)) b7); (have on_7 := At.below (by first | exact on_6 | exact At.below on_6 (below_al (Below.refl _ _) _) | exact At.below (At.below on_6 (below_al (Below.refl _ _) _)) (below_al (Below.refl _ _) _) | exact At.move on_6 (fun _ _ => rfl) (Nat.le_refl _)) b7); (have om_7 := At.below (by first | exact om | exact At.below om (below_al (Below.refl _ _) _) | exact At.below (At.below om (below_al (Below.refl _ _) _)) (below_al (Below.refl _ _) _) | exact At.move om (fun _ _ => rfl) (Nat.le_refl _)) b7); obtain ⟨Af, cf, Bf, df, rfl⟩ := ownQ_form of.here; have cz0 := ko_7.here.cell 0 _ rfl; have fz0 := Lib.frozen_of_heap ko_7.here 0; have cz1 := ko_7.here.cell 1 _ rfl; have fz1 := Lib.frozen_of_heap ko_7.here 1; have cz2 := ko_7.here.cell 2 _ rfl; have fz2 := Lib.frozen_of_heap ko_7.here 2; have HBZ7 := Lib.hid hBB.out.size; clear hBB))
      have bb7 := BBF.out _ HC7.out
      replace kr := kr.chg HC7.out (fun i hi hm => by simp at hi hm; omega)
      replace ks := ks.chg HC7.out (fun i hi hm => by simp at hi hm; omega)
      replace ko := ko_7
      have on := on_7
      have om := om_7
      have HW := Lib.hid (newQb_at (r := w.heap.size + 1 + 1) (b := (lowQ N.1 X4 X3).2) of lf (by have := HBZ7.out; omega) (by omega) bb7)
      clear of ko kr ks kn on om
      go_wp2
      refine bodyPost_ret (v := .tuple #[.agg #[.bool _, .slice Af _ cf, .slice Bf _ df], .bool _]) (by simp [results, Tryz.results132, go_sem, cz0, cz1, cz2]; exact ⟨⟨rfl, rfl, rfl⟩, rfl⟩) rfl ?_
      rw [HV.out]
      exact HW.out
    · have oks' : okQ s = false := by simpa using oks
      have HV := Lib.hid (show addQ r s = (zeroQ, false) by unfold addQ; rw [if_neg (fun h => oks h.2)])
      rw [oks']
      clear oks oks'
      have ko_c0 := ko.here.cell 0 _ rfl
      have ko_c1 := ko.here.cell 1 _ rfl
      have ko_c2 := ko.here.cell 2 _ rfl
      have cz0 := ko.here.cell 0 _ rfl
      have fz0 := Lib.frozen_of_heap ko.here 0
      have cz1 := ko.here.cell 1 _ rfl
      have fz1 := Lib.frozen_of_heap ko.here 1
      have cz2 := ko.here.cell 2 _ rfl
      have fz2 := Lib.frozen_of_heap ko.here 2
      go_wp2
      refine bodyPost_ret (v := .tuple #[.agg #[.bool false, .slice none 0 0, .slice none 0 0], .bool false]) (by simp [results, Tryz.results132, go_sem, cz0, cz1, cz2]) rfl ?_
      rw [HV.out]
      first | exact newQb_zero _ bb2 | exact newQb_zero _ (below_set3 bb2 (by omega))
  · have okr' : okQ r = false := by simpa using okr
    have HV := Lib.hid (show addQ r s = (zeroQ, false) by unfold addQ; rw [if_neg (fun h => okr h.1)])
    rw [okr']
    clear okr okr'
    have ko_c0 := ko.here.cell 0 _ rfl
    have ko_c1 := ko.here.cell 1 _ rfl
    have ko_c2 := ko.here.cell 2 _ rfl
    have cz0 := ko.here.cell 0 _ rfl
    have fz0 := Lib.frozen_of_heap ko.here 0
    have cz1 := ko.here.cell 1 _ rfl
    have fz1 := Lib.frozen_of_heap ko.here 1
    have cz2 := ko.here.cell 2 _ rfl
    have fz2 := Lib.frozen_of_heap ko.here 2
    go_wp2
    refine bodyPost_ret (v := .tuple #[.agg #[.bool false, .slice none 0 0, .slice none 0 0], .bool false]) (by simp [results, Tryz.results132, go_sem, cz0, cz1, cz2]) rfl ?_
    rw [HV.out]
    first | exact newQb_zero _ bb1 | exact newQb_zero _ (below_set3 bb1 (by omega))
end Go.Proofs.YtcenmdiblbooeaaGreatDoor

namespace Go.Proofs.YtcenmdiblbooeaaGreatDoor
open Go.RowKit

/-- what was own ahead of an append to an empty literal is own behind it, apart from what the append gave -/
theorem after_append {wb w3 : World} {base L gg n k : Nat} {v : Value} {xs : List Value} (m cap : Nat) (o : wb.ownsRow base 3 1 v n xs) (hg : wb.grownBy w3 (Value.slice (some ⟨L, 0, none⟩) 0 k).ownBlock)
    (hat : (Value.slice (some ⟨L, 0, none⟩) 0 k).ownBlock = some gg ∨ gg = wb.heap.size) (hL : L < base ∨ ∀ g, v.ownBlock = some g → g < L) : w3.ownsRow base 3 1 v n xs ∧ ∀ g, v.ownBlock = some g → (Value.slice (some ⟨gg, 0, none⟩) (0 + m) cap).ownBlock ≠ some g := by
  refine ⟨own_apart o hg fun g q h1 h2 => ?_, fun g h1 h2 => ?_⟩
  · have h3 := Option.some.inj (show some L = some q from h2)
    have h4 := own_lt o h1
    rcases hL with h5 | h5
    · omega
    · have := h5 g h1
      omega
  · have h3 := Option.some.inj (show some gg = some g from h2)
    have h4 := own_lt o h1
    rcases hat with h6 | h6
    · have h7 := Option.some.inj (show some L = some gg from h6)
      rcases hL with h5 | h5
      · omega
      · have := h5 g h1
        omega
    · omega
set_option maxHeartbeats 2000000 in
set_option maxRecDepth 100000 in
theorem specRatNeg_any (vr : Value) (r : QI) (w : World) (hzr : szQ r ≤ 1048576) (hr : OwnQ vr r w) :
    Calls Tryz.prog 131 #[vr] w (PostQb (negQ r).1 (negQ r).2 w) := by
  obtain ⟨i0, hi0, hz0, hz1, hz2⟩ := info_parts intInfo
  have Hr := Lib.hid hr
  obtain ⟨Ar, cr, Br, dr, rfl⟩ := ownQ_form hr
  have OQr := Lib.hid (show ∀ W, Below w.heap.size w W → OwnQ (.agg #[.bool r.1.1, .slice Ar r.1.2.length cr, .slice Br r.2.length dr]) r W from fun W hb => OwnQ.below Hr.out hb)
  have OUr := Lib.hid (show ∀ W, Below w.heap.size w W → OwnI (.slice Ar r.1.2.length cr) r.1.2 W from fun W hb => (ownQ_open (OQr.out W hb)).2.1)
  have ODr := Lib.hid (show ∀ W, Below w.heap.size w W → OwnI (.slice Br r.2.length dr) r.2 W from fun W hb => (ownQ_open (OQr.out W hb)).2.2.1)
  have OSr := Lib.hid (show ∀ W, Below w.heap.size w W → OwnS (.agg #[.bool r.1.1, .slice Ar r.1.2.length cr]) r.1 W from fun W hb => OwnS.mk (OUr.out W hb))
  clear hr
  have hlr := szQ_len hzr
  have hl1r := hlr.1
  have hl2r := hlr.2
  clear hlr
  have bb0 : Below w.heap.size w ((w.alloc (.cells #[.bool r.1.1, .slice Ar r.1.2.length cr, .slice Br r.2.length dr] 51)).alloc (.cells #[.bool false, .slice none 0 0, .slice none 0 0] 51)) := below_al (below_al (Below.refl _ _) _) _
  have kr := (box_new w #[.bool r.1.1, .slice Ar r.1.2.length cr, .slice Br r.2.length dr] 51).below (below_al (Below.refl _ _) (.cells #[.bool false, .slice none 0 0, .slice none 0 0] 51))
  have ko := (box_new (w.alloc (.cells #[.bool r.1.1, .slice Ar r.1.2.length cr, .slice Br r.2.length dr] 51)) #[.bool false, .slice none 0 0, .slice none 0 0] 51)
  rw [show (w.alloc (.cells #[.bool r.1.1, .slice Ar r.1.2.length cr, .slice Br r.2.length dr] 51)).heap.size = w.heap.size + 1 by simp] at ko
  go_enter Tryz.func131, Tryz.ntmps131
  have kr_c0 := kr.here.cell 0 _ rfl
  have kr_c1 := kr.here.cell 1 _ rfl
  have kr_c2 := kr.here.cell 2 _ rfl
  go_wp2_with fail
  clear kr_c0 kr_c1 kr_c2
  refine (specRatOk_any _ r _ hzr (OQr.out _ bb0)).mono ?_
  rintro e w1 ⟨rfl, b1⟩
  have bb1 := Below.next bb0 b1
  replace kr := kr.below b1
  replace ko := ko.below b1
  by_cases okr : okQ r = true
  · rw [okr]
    have HOr := Lib.hid okr
    clear okr
    have HP := Lib.hid (parts_of HOr.out)
    have hp : 0 < r.2.length := (okQ_parts HOr.out).2.2.1
    have hd18 := HP.out.d50
    have HB1 := Lib.hid bb1
    have HONE := Lib.hid oneCells
    have HV := Lib.hid (show negQ r = ((negS r.1, r.2), true) by unfold negQ; rw [if_pos HOr.out])
    have kr_c0 := kr.here.cell 0 _ rfl
    have kr_c1 := kr.here.cell 1 _ rfl
    have kr_c2 := kr.here.cell 2 _ rfl
    have ko_c0 := ko.here.cell 0 _ rfl
    have ko_c1 := ko.here.cell 1 _ rfl
    have ko_c2 := ko.here.cell 2 _ rfl
    have ko_f0 := Lib.frozen_of_heap ko.here 0
    have ko_f1 := Lib.frozen_of_heap ko.here 1
    have ko_f2 := Lib.frozen_of_heap ko.here 2
    have hsz1 := bb1.size
    have hko := ko.lt (w.heap.size + 1) (by simp)
    go_wp2_with fail
    obtain ⟨gB, cB, eB, hgB0, hgB1, _⟩ := own_form (ODr.out _ bb1) hp
    injection eB with eB _ ecB
    subst eB ecB
    have HB0 := Lib.hid (show Below w1.heap.size w1 w1.drew from (Below.refl _ _).drew)
    have BBF := Lib.hid (show ∀ W, Below w1.heap.size w1 W → Below w.heap.size w W from fun W hb => Below.next bb1 hb)
    have KR := Lib.hid (show ∀ W, Below w1.heap.size w1 W → W.cell? ⟨w.heap.size, 0, none⟩ = some (.bool r.1.1) ∧ W.cell? ⟨w.heap.size, 1, none⟩ = some (.slice Ar r.1.2.length cr) ∧ W.cell? ⟨w.heap.size, 2, none⟩ = some (.slice (some ⟨gB, 0, none⟩) r.2.length dr) from
      fun W hb => ⟨(kr.below hb).here.cell 0 _ rfl, (kr.below hb).here.cell 1 _ rfl, (kr.below hb).here.cell 2 _ rfl⟩)
    have KO := Lib.hid (show ∀ W, Below w1.heap.size w1 W → At [w.heap.size + 1] (BoxAt (w.heap.size + 1) #[.bool false, .slice none 0 0, .slice none 0 0] 51) W from fun W hb => ko.below hb)
    have ODc := Lib.hid (show ∀ W, Below w1.heap.size w1 W → ∀ j u, (intsV r.2)[j]? = some u → W.cell? (Addr.add ⟨gB, 0, none⟩ j) = some u from fun W hb j u hj => by
      obtain ⟨A', c', e1, hA⟩ := (ODr.out W (BBF.out W hb)).row
      injection e1 with e1 _ _
      subst e1
      obtain ⟨a, ea, _, _, hc⟩ := hA j u hj
      cases ea
      exact hc)
    have HB1L := Lib.hid (show Below w1.heap.size w1 (w1.alloc (.cells #[] 3)).drew from (below_al (Below.refl _ _) _).drew)
    have LITLT := Lib.hid (show w1.heap.size < (w1.alloc (.cells #[] 3)).drew.heap.size by show w1.heap.size < (w1.alloc (.cells #[] 3)).heap.size; simp)
    have LIT := Lib.hid (fun W : World => World.ownsRow_made (base := w1.heap.size) (e := 3) (size := 1) W #[] 0)
    have hk0 : w.heap.size < w1.heap.size := by omega
    go_region_law (first
      | (refine step_append_lies _ (by rfl) _ _ _ (by rfl) w1.heap.size 3 i0 _ 1 8 Tryz.underlying23 hi0 hz0 hz1 hz2 rfl (by omega) _ 0 [] (by rfl) (by first | exact LIT.out wc HBC.out.size (Nat.zero_le _) rfl | exact own_below (LIT.out w1 (Nat.le_refl _) (Nat.zero_le _) rfl).drew bc) _ r.2.length dr (intsV r.2) (by rfl) (by simp [intsV]) (ODc.out _ (by first | exact HBC.out | exact below_al HBC.out _)) (HONE.out _) hp (by unfold maxLen; omega) (by omega) (by first | exact HBC.out.size | exact (below_al HBC.out _).size) _ (by rfl) ?_; intro gg cap w3 hown3 hg3 hat3 hlt3; have HBE := Lib.hid (show Below w1.heap.size w1 w3 from by first | exact HBC.out.grown hg3 HBC.out.size (fun k hk => by cases hk; exact Nat.le_refl _) | exact (below_al HBC.out _).grown hg3 (below_al HBC.out _).size (fun k hk => by cases hk; exact HBC.out.size)); have HOE := Lib.hid hown3; (first | (have hzz := after_append r.2.length cap (own_alloc HOC.out (.cells #[] 3)) hg3 hat3 (.inr fun g hg => (own_lt HOC.out hg).2)) | (have hzz := after_append r.2.length cap HOC.out hg3 hat3 (.inl LITLT.out))); obtain ⟨hoc3, hap3⟩ := hzz; have HOC3 := Lib.hid hoc3; have HAP := Lib.hid hap3; clear hoc3 hap3; (have e_r0 := (KR.out _ HBE.out).1); (have e_r1 := (KR.out _ HBE.out).2.1); (have e_r2 := (KR.out _ HBE.out).2.2); (have e_o0 := (KO.out _ HBE.out).here.cell 0 _ rfl); (have e_o1 := (KO.out _ HBE.out).here.cell 1 _ rfl); (have e_o2 := (KO.out _ HBE.out).here.cell 2 _ rfl); (have e_f0 := Lib.frozen_of_heap (KO.out _ HBE.out).here 0); (have e_f1 := Lib.frozen_of_heap (KO.out _ HBE.out).here 1); (have e_f2 := Lib.frozen_of_heap (KO.out _ HBE.out).here 2); clear hown3 hg3 hat3 hlt3)
      | (go_simp; go_at_call 168; (first | (have hBB := HB0.out; with_reducible refine (specIntNeg_any _ r.1 _ hl1r (OSr.out _ (BBF.out _ hBB))).mono ?_) | (have hBB := HB1L.out; with_reducible refine (specIntNeg_any _ r.1 _ hl1r (OSr.out _ (BBF.out _ hBB))).mono ?_)); rintro e wc ⟨uc, rfl, oc, bc⟩; obtain ⟨Ac, cc, rfl⟩ := own_len oc; have HOC := Lib.hid oc; have HBC := Lib.hid (Below.next hBB bc); (have c_l0 : w.heap.size < wc.heap.size := by have := HBC.out.size; omega); (have c_l1 : w.heap.size + 1 < wc.heap.size := by have := HBC.out.size; omega); (have c_r0 := (KR.out _ HBC.out).1); (have c_r1 := (KR.out _ HBC.out).2.1); (have c_r2 := (KR.out _ HBC.out).2.2); (have c_o0 := (KO.out _ HBC.out).here.cell 0 _ rfl); (have c_o1 := (KO.out _ HBC.out).here.cell 1 _ rfl); (have c_o2 := (KO.out _ HBC.out).here.cell 2 _ rfl); (have c_f0 := Lib.frozen_of_heap (KO.out _ HBC.out).here 0); (have c_f1 := Lib.frozen_of_heap (KO.out _ HBC.out).here 1); (have c_f2 := Lib.frozen_of_heap (KO.out _ HBC.out).here 2); clear oc hBB))
    all_goals
      have HR := Lib.hid (newQb_ret (x := (negS r.1, r.2)) (b := true) (KO.out _ HBE.out).here HOC3.out (by have h := HOE.out; simp only [Nat.zero_add, List.nil_append] at h; exact h) (by have h := HAP.out; simp only [Nat.zero_add] at h; exact h) (Nat.le_trans bb1.size (by first | exact HB0.out.size | exact HB1L.out.size)) bb1.size (Nat.le_add_right _ 1) (BBF.out _ HBE.out))
      clear HOE HOC3 HAP HBE HBC HOC HB0 HB1L LIT ODc KO KR BBF OQr OUr ODr OSr
      go_wp2
      refine bodyPost_ret (v := .tuple #[.agg #[.bool _, .slice Ac _ cc, .slice _ _ cap], .bool true]) (by simp [results, Tryz.results131, go_sem, e_o0, e_o1, e_o2]; exact ⟨rfl, rfl, rfl, rfl⟩) rfl ?_
      rw [HV.out]
      exact HR.out
  · have okr' : okQ r = false := by simpa using okr
    have HV := Lib.hid (show negQ r = (zeroQ, false) by unfold negQ; rw [if_neg okr])
    rw [okr']
    clear okr okr'
    have cz0 := ko.here.cell 0 _ rfl
    have fz0 := Lib.frozen_of_heap ko.here 0
    have cz1 := ko.here.cell 1 _ rfl
    have fz1 := Lib.frozen_of_heap ko.here 1
    have cz2 := ko.here.cell 2 _ rfl
    have fz2 := Lib.frozen_of_heap ko.here 2
    go_wp2
    refine bodyPost_ret (v := .tuple #[.agg #[.bool false, .slice none 0 0, .slice none 0 0], .bool false]) (by simp [results, Tryz.results131, go_sem, cz0, cz1, cz2]) rfl ?_
    rw [HV.out]
    first | exact newQb_zero _ bb1 | exact newQb_zero _ (below_set3 bb1 (by omega))
end Go.Proofs.YtcenmdiblbooeaaGreatDoor

namespace Go.Proofs.YtcenmdiblbooeaaGreatDoor
open Go.RowKit

set_option maxHeartbeats 1000000 in
set_option maxRecDepth 100000 in
theorem l06Away_0 (vq vr vd : Value) (neg : Bool) (Q R D : Nat) (w : World) (_ : (limbs Q).length ≤ 50) (hr : (limbs R).length ≤ 18) (hd : (limbs D).length ≤ 18) (oq : OwnI vq (limbs Q) w) (or_ : OwnI vr (limbs R) w) (od : OwnI vd (limbs D) w) :
    Calls Tryz.prog 165 #[.bool neg, vq, vr, vd, .int .i64 0] w (Postb (awayB neg Q R D 0) w) := by
  obtain ⟨Aq, cq, rfl⟩ := own_len oq
  obtain ⟨Ar, cr, rfl⟩ := own_len or_
  obtain ⟨Ad, cd, rfl⟩ := own_len od
  have HOQ := Lib.hid oq
  have HOR := Lib.hid or_
  have HOD := Lib.hid od
  have HTW := Lib.hid (twice_len hr)
  obtain ⟨c, hc⟩ : ∃ c, cmpI ((R : Int) + R + 0) D = c := ⟨_, rfl⟩
  have HC := Lib.hid hc
  have HA := Lib.hid (away_cmp neg Q R D hc)
  have h3 : c = -1 ∨ c = 0 ∨ c = 1 := by rw [← hc]; exact cmp_three _ _
  clear hc oq or_ od
  go_enter Tryz.func165, Tryz.ntmps165
  go_wp2_with fail
  refine (specAdd_any _ _ (limbs R) (limbs R) 0 _ 0 _ _ (by omega) (by omega) (Nat.le_refl _) (Nat.le_refl _) (limbs_digN R) (limbs_digN R) HOR.out.row HOR.out.row).mono ?_
  rintro e w1 ⟨v1, rfl, o1, b1⟩
  obtain ⟨A1, c1, rfl⟩ := own_len o1
  have HO1 := Lib.hid o1
  clear o1
  go_wp2_with fail
  refine (specCmp_any _ _ (addL (limbs R) (limbs R) 0) (limbs D) _ _ _ _ _ (by have := HTW.out.1; omega) (by omega) ⟨HTW.out.2.1, HTW.out.2.2.1⟩ ⟨limbs_digN D, limbs_lastN D⟩ (Row.of_own HO1.out) (HOD.out.belowI b1).row).mono ?_
  rintro e w2 ⟨rfl, q, rfl⟩
  rw [HTW.out.2.2.2, limbs_val, HC.out]
  have bb := below_drewN b1 q
  clear h3
  go_wp2
  go_ret
  exact ⟨ret_bool (rfl), bb⟩
set_option maxHeartbeats 1000000 in
set_option maxRecDepth 100000 in
theorem l06Away_1 (vq vr vd : Value) (neg : Bool) (Q R D : Nat) (w : World) (_ : (limbs Q).length ≤ 50) (hr : (limbs R).length ≤ 18) (hd : (limbs D).length ≤ 18) (oq : OwnI vq (limbs Q) w) (or_ : OwnI vr (limbs R) w) (od : OwnI vd (limbs D) w) :
    Calls Tryz.prog 165 #[.bool neg, vq, vr, vd, .int .i64 1] w (Postb (awayB neg Q R D 1) w) := by
  obtain ⟨Aq, cq, rfl⟩ := own_len oq
  obtain ⟨Ar, cr, rfl⟩ := own_len or_
  obtain ⟨Ad, cd, rfl⟩ := own_len od
  have HOQ := Lib.hid oq
  have HOR := Lib.hid or_
  have HOD := Lib.hid od
  have HTW := Lib.hid (twice_len hr)
  obtain ⟨c, hc⟩ : ∃ c, cmpI ((R : Int) + R + 0) D = c := ⟨_, rfl⟩
  have HC := Lib.hid hc
  have HA := Lib.hid (away_cmp neg Q R D hc)
  have h3 : c = -1 ∨ c = 0 ∨ c = 1 := by rw [← hc]; exact cmp_three _ _
  clear hc oq or_ od
  go_enter Tryz.func165, Tryz.ntmps165
  go_wp2_with fail
  refine (specAdd_any _ _ (limbs R) (limbs R) 0 _ 0 _ _ (by omega) (by omega) (Nat.le_refl _) (Nat.le_refl _) (limbs_digN R) (limbs_digN R) HOR.out.row HOR.out.row).mono ?_
  rintro e w1 ⟨v1, rfl, o1, b1⟩
  obtain ⟨A1, c1, rfl⟩ := own_len o1
  have HO1 := Lib.hid o1
  clear o1
  go_wp2_with fail
  refine (specCmp_any _ _ (addL (limbs R) (limbs R) 0) (limbs D) _ _ _ _ _ (by have := HTW.out.1; omega) (by omega) ⟨HTW.out.2.1, HTW.out.2.2.1⟩ ⟨limbs_digN D, limbs_lastN D⟩ (Row.of_own HO1.out) (HOD.out.belowI b1).row).mono ?_
  rintro e w2 ⟨rfl, q, rfl⟩
  rw [HTW.out.2.2.2, limbs_val, HC.out]
  have bb := below_drewN b1 q
  clear h3
  go_wp2
  go_ret
  exact ⟨ret_bool (rfl), bb⟩
set_option maxHeartbeats 1000000 in
set_option maxRecDepth 100000 in
theorem l06Away_2 (vq vr vd : Value) (neg : Bool) (Q R D : Nat) (w : World) (_ : (limbs Q).length ≤ 50) (hr : (limbs R).length ≤ 18) (hd : (limbs D).length ≤ 18) (oq : OwnI vq (limbs Q) w) (or_ : OwnI vr (limbs R) w) (od : OwnI vd (limbs D) w) :
    Calls Tryz.prog 165 #[.bool neg, vq, vr, vd, .int .i64 2] w (Postb (awayB neg Q R D 2) w) := by
  obtain ⟨Aq, cq, rfl⟩ := own_len oq
  obtain ⟨Ar, cr, rfl⟩ := own_len or_
  obtain ⟨Ad, cd, rfl⟩ := own_len od
  have HOQ := Lib.hid oq
  have HOR := Lib.hid or_
  have HOD := Lib.hid od
  have HTW := Lib.hid (twice_len hr)
  obtain ⟨c, hc⟩ : ∃ c, cmpI ((R : Int) + R + 0) D = c := ⟨_, rfl⟩
  have HC := Lib.hid hc
  have HA := Lib.hid (away_cmp neg Q R D hc)
  have h3 : c = -1 ∨ c = 0 ∨ c = 1 := by rw [← hc]; exact cmp_three _ _
  clear hc oq or_ od
  go_enter Tryz.func165, Tryz.ntmps165
  go_wp2_with fail
  refine (specAdd_any _ _ (limbs R) (limbs R) 0 _ 0 _ _ (by omega) (by omega) (Nat.le_refl _) (Nat.le_refl _) (limbs_digN R) (limbs_digN R) HOR.out.row HOR.out.row).mono ?_
  rintro e w1 ⟨v1, rfl, o1, b1⟩
  obtain ⟨A1, c1, rfl⟩ := own_len o1
  have HO1 := Lib.hid o1
  clear o1
  go_wp2_with fail
  refine (specCmp_any _ _ (addL (limbs R) (limbs R) 0) (limbs D) _ _ _ _ _ (by have := HTW.out.1; omega) (by omega) ⟨HTW.out.2.1, HTW.out.2.2.1⟩ ⟨limbs_digN D, limbs_lastN D⟩ (Row.of_own HO1.out) (HOD.out.belowI b1).row).mono ?_
  rintro e w2 ⟨rfl, q, rfl⟩
  rw [HTW.out.2.2.2, limbs_val, HC.out]
  have bb := below_drewN b1 q
  clear h3
  go_wp2
  go_ret
  exact ⟨ret_bool (rfl), bb⟩
set_option maxHeartbeats 1000000 in
set_option maxRecDepth 100000 in
theorem l06Away_3 (vq vr vd : Value) (neg : Bool) (Q R D : Nat) (w : World) (_ : (limbs Q).length ≤ 50) (hr : (limbs R).length ≤ 18) (hd : (limbs D).length ≤ 18) (oq : OwnI vq (limbs Q) w) (or_ : OwnI vr (limbs R) w) (od : OwnI vd (limbs D) w) :
    Calls Tryz.prog 165 #[.bool neg, vq, vr, vd, .int .i64 3] w (Postb (awayB neg Q R D 3) w) := by
  obtain ⟨Aq, cq, rfl⟩ := own_len oq
  obtain ⟨Ar, cr, rfl⟩ := own_len or_
  obtain ⟨Ad, cd, rfl⟩ := own_len od
  have HOQ := Lib.hid oq
  have HOR := Lib.hid or_
  have HOD := Lib.hid od
  have HTW := Lib.hid (twice_len hr)
  obtain ⟨c, hc⟩ : ∃ c, cmpI ((R : Int) + R + 0) D = c := ⟨_, rfl⟩
  have HC := Lib.hid hc
  have HA := Lib.hid (away_cmp neg Q R D hc)
  have h3 : c = -1 ∨ c = 0 ∨ c = 1 := by rw [← hc]; exact cmp_three _ _
  clear hc oq or_ od
  go_enter Tryz.func165, Tryz.ntmps165
  go_wp2_with fail
  refine (specAdd_any _ _ (limbs R) (limbs R) 0 _ 0 _ _ (by omega) (by omega) (Nat.le_refl _) (Nat.le_refl _) (limbs_digN R) (limbs_digN R) HOR.out.row HOR.out.row).mono ?_
  rintro e w1 ⟨v1, rfl, o1, b1⟩
  obtain ⟨A1, c1, rfl⟩ := own_len o1
  have HO1 := Lib.hid o1
  clear o1
  go_wp2_with fail
  refine (specCmp_any _ _ (addL (limbs R) (limbs R) 0) (limbs D) _ _ _ _ _ (by have := HTW.out.1; omega) (by omega) ⟨HTW.out.2.1, HTW.out.2.2.1⟩ ⟨limbs_digN D, limbs_lastN D⟩ (Row.of_own HO1.out) (HOD.out.belowI b1).row).mono ?_
  rintro e w2 ⟨rfl, q, rfl⟩
  rw [HTW.out.2.2.2, limbs_val, HC.out]
  have bb := below_drewN b1 q
  clear h3
  go_wp2
  go_ret
  exact ⟨ret_bool (rfl), bb⟩
set_option maxHeartbeats 1000000 in
set_option maxRecDepth 100000 in
theorem l06Away_4 (vq vr vd : Value) (neg : Bool) (Q R D : Nat) (w : World) (_ : (limbs Q).length ≤ 50) (hr : (limbs R).length ≤ 18) (hd : (limbs D).length ≤ 18) (oq : OwnI vq (limbs Q) w) (or_ : OwnI vr (limbs R) w) (od : OwnI vd (limbs D) w) :
    Calls Tryz.prog 165 #[.bool neg, vq, vr, vd, .int .i64 4] w (Postb (awayB neg Q R D 4) w) := by
  obtain ⟨Aq, cq, rfl⟩ := own_len oq
  obtain ⟨Ar, cr, rfl⟩ := own_len or_
  obtain ⟨Ad, cd, rfl⟩ := own_len od
  have HOQ := Lib.hid oq
  have HOR := Lib.hid or_
  have HOD := Lib.hid od
  have HTW := Lib.hid (twice_len hr)
  obtain ⟨c, hc⟩ : ∃ c, cmpI ((R : Int) + R + 0) D = c := ⟨_, rfl⟩
  have HC := Lib.hid hc
  have HA := Lib.hid (away_cmp neg Q R D hc)
  have h3 : c = -1 ∨ c = 0 ∨ c = 1 := by rw [← hc]; exact cmp_three _ _
  clear hc oq or_ od
  go_enter Tryz.func165, Tryz.ntmps165
  go_wp2_with fail
  refine (specAdd_any _ _ (limbs R) (limbs R) 0 _ 0 _ _ (by omega) (by omega) (Nat.le_refl _) (Nat.le_refl _) (limbs_digN R) (limbs_digN R) HOR.out.row HOR.out.row).mono ?_
  rintro e w1 ⟨v1, rfl, o1, b1⟩
  obtain ⟨A1, c1, rfl⟩ := own_len o1
  have HO1 := Lib.hid o1
  clear o1
  go_wp2_with fail
  refine (specCmp_any _ _ (addL (limbs R) (limbs R) 0) (limbs D) _ _ _ _ _ (by have := HTW.out.1; omega) (by omega) ⟨HTW.out.2.1, HTW.out.2.2.1⟩ ⟨limbs_digN D, limbs_lastN D⟩ (Row.of_own HO1.out) (HOD.out.belowI b1).row).mono ?_
  rintro e w2 ⟨rfl, q, rfl⟩
  rw [HTW.out.2.2.2, limbs_val, HC.out]
  have bb := below_drewN b1 q
  clear h3
  go_wp2
  go_ret
  exact ⟨ret_bool HA.out.1.symm, bb⟩
set_option maxHeartbeats 1000000 in
set_option maxRecDepth 100000 in
theorem l06Away_5 (vq vr vd : Value) (neg : Bool) (Q R D : Nat) (w : World) (_ : (limbs Q).length ≤ 50) (hr : (limbs R).length ≤ 18) (hd : (limbs D).length ≤ 18) (oq : OwnI vq (limbs Q) w) (or_ : OwnI vr (limbs R) w) (od : OwnI vd (limbs D) w) :
    Calls Tryz.prog 165 #[.bool neg, vq, vr, vd, .int .i64 5] w (Postb (awayB neg Q R D 5) w) := by
  obtain ⟨Aq, cq, rfl⟩ := own_len oq
  obtain ⟨Ar, cr, rfl⟩ := own_len or_
  obtain ⟨Ad, cd, rfl⟩ := own_len od
  have HOQ := Lib.hid oq
  have HOR := Lib.hid or_
  have HOD := Lib.hid od
  have HTW := Lib.hid (twice_len hr)
  obtain ⟨c, hc⟩ : ∃ c, cmpI ((R : Int) + R + 0) D = c := ⟨_, rfl⟩
  have HC := Lib.hid hc
  have HA := Lib.hid (away_cmp neg Q R D hc)
  have h3 : c = -1 ∨ c = 0 ∨ c = 1 := by rw [← hc]; exact cmp_three _ _
  clear hc oq or_ od
  go_enter Tryz.func165, Tryz.ntmps165
  go_wp2_with fail
  refine (specAdd_any _ _ (limbs R) (limbs R) 0 _ 0 _ _ (by omega) (by omega) (Nat.le_refl _) (Nat.le_refl _) (limbs_digN R) (limbs_digN R) HOR.out.row HOR.out.row).mono ?_
  rintro e w1 ⟨v1, rfl, o1, b1⟩
  obtain ⟨A1, c1, rfl⟩ := own_len o1
  have HO1 := Lib.hid o1
  clear o1
  go_wp2_with fail
  refine (specCmp_any _ _ (addL (limbs R) (limbs R) 0) (limbs D) _ _ _ _ _ (by have := HTW.out.1; omega) (by omega) ⟨HTW.out.2.1, HTW.out.2.2.1⟩ ⟨limbs_digN D, limbs_lastN D⟩ (Row.of_own HO1.out) (HOD.out.belowI b1).row).mono ?_
  rintro e w2 ⟨rfl, q, rfl⟩
  rw [HTW.out.2.2.2, limbs_val, HC.out]
  have bb := below_drewN b1 q
  clear h3
  go_wp2
  go_ret
  exact ⟨ret_bool HA.out.2.1.symm, bb⟩
set_option maxHeartbeats 1000000 in
set_option maxRecDepth 100000 in
theorem l06Away_6 (vq vr vd : Value) (neg : Bool) (Q R D : Nat) (w : World) (hq : (limbs Q).length ≤ 50) (hr : (limbs R).length ≤ 18) (hd : (limbs D).length ≤ 18) (oq : OwnI vq (limbs Q) w) (or_ : OwnI vr (limbs R) w) (od : OwnI vd (limbs D) w) :
    Calls Tryz.prog 165 #[.bool neg, vq, vr, vd, .int .i64 6] w (Postb (awayB neg Q R D 6) w) := by
  obtain ⟨Aq, cq, rfl⟩ := own_len oq
  obtain ⟨Ar, cr, rfl⟩ := own_len or_
  obtain ⟨Ad, cd, rfl⟩ := own_len od
  have HOQ := Lib.hid oq
  have HOR := Lib.hid or_
  have HOD := Lib.hid od
  have HTW := Lib.hid (twice_len hr)
  obtain ⟨c, hc⟩ : ∃ c, cmpI ((R : Int) + R + 0) D = c := ⟨_, rfl⟩
  have HC := Lib.hid hc
  have HA := Lib.hid (away_cmp neg Q R D hc)
  have h3 : c = -1 ∨ c = 0 ∨ c = 1 := by rw [← hc]; exact cmp_three _ _
  clear hc oq or_ od
  go_enter Tryz.func165, Tryz.ntmps165
  go_wp2_with fail
  refine (specAdd_any _ _ (limbs R) (limbs R) 0 _ 0 _ _ (by omega) (by omega) (Nat.le_refl _) (Nat.le_refl _) (limbs_digN R) (limbs_digN R) HOR.out.row HOR.out.row).mono ?_
  rintro e w1 ⟨v1, rfl, o1, b1⟩
  obtain ⟨A1, c1, rfl⟩ := own_len o1
  have HO1 := Lib.hid o1
  clear o1
  go_wp2_with fail
  refine (specCmp_any _ _ (addL (limbs R) (limbs R) 0) (limbs D) _ _ _ _ _ (by have := HTW.out.1; omega) (by omega) ⟨HTW.out.2.1, HTW.out.2.2.1⟩ ⟨limbs_digN D, limbs_lastN D⟩ (Row.of_own HO1.out) (HOD.out.belowI b1).row).mono ?_
  rintro e w2 ⟨rfl, q, rfl⟩
  rw [HTW.out.2.2.2, limbs_val, HC.out]
  have bb := below_drewN b1 q
  rcases h3 with rfl | rfl | rfl
  · go_wp2
    go_ret
    exact ⟨ret_bool (HA.out.2.2.trans (by simp)).symm, bb⟩
  · have he : decide (Q % 2 = 1) = !decide (Q % 2 = 0) := by rcases Nat.mod_two_eq_zero_or_one Q with h | h <;> rw [h] <;> rfl
    have HV := Lib.hid (show awayB neg Q R D 6 = !decide (Q % 2 = 0) by rw [HA.out.2.2, he]; rfl)
    clear he HA
    go_wp2_with fail
    refine (specNatEven_any _ (limbs Q) 0 _ _ (by omega) (HOQ.out.belowI (below_drewN b1 q)).row).mono ?_
    rintro e w3 ⟨rfl, rfl⟩
    rw [even_limbs hq]
    generalize decide (Q % 2 = 0) = b at *
    cases b
    · go_wp2
      go_ret
      exact ⟨ret_bool HV.out.symm, bb⟩
    · go_wp2
      go_ret
      exact ⟨ret_bool HV.out.symm, bb⟩
  · go_wp2
    go_ret
    exact ⟨ret_bool (HA.out.2.2.trans (by simp)).symm, bb⟩
theorem l06Away_any (vq vr vd : Value) (neg : Bool) (Q R D : Nat) (w : World) (hq : (limbs Q).length ≤ 50) (hr : (limbs R).length ≤ 18) (hd : (limbs D).length ≤ 18) (oq : OwnI vq (limbs Q) w) (or_ : OwnI vr (limbs R) w) (od : OwnI vd (limbs D) w) (m : Int) (hm : modeB m = true) :
    Calls Tryz.prog 165 #[.bool neg, vq, vr, vd, .int .i64 m] w (Postb (awayB neg Q R D m) w) := by
  rcases modeB_cases hm with rfl | rfl | rfl | rfl | rfl | rfl | rfl
  · exact l06Away_0 vq vr vd neg Q R D w hq hr hd oq or_ od
  · exact l06Away_1 vq vr vd neg Q R D w hq hr hd oq or_ od
  · exact l06Away_2 vq vr vd neg Q R D w hq hr hd oq or_ od
  · exact l06Away_3 vq vr vd neg Q R D w hq hr hd oq or_ od
  · exact l06Away_4 vq vr vd neg Q R D w hq hr hd oq or_ od
  · exact l06Away_5 vq vr vd neg Q R D w hq hr hd oq or_ od
  · exact l06Away_6 vq vr vd neg Q R D w hq hr hd oq or_ od
set_option maxHeartbeats 2000000 in
set_option maxRecDepth 100000 in
theorem l06Round_any (vr : Value) (r : QI) (m : Int) (w : World) (ok : okQ r = true) (hm : modeB m = true) (hr : OwnQ vr r w) :
    Calls Tryz.prog 129 #[vr, .int .i64 m] w (NewV (fun u => OwnS u (roundS r m)) w) := by
  have Hr := Lib.hid hr
  obtain ⟨Ar, cr, Br, dr, rfl⟩ := ownQ_form hr
  have OQr := Lib.hid (show ∀ W, Below w.heap.size w W → OwnQ (.agg #[.bool r.1.1, .slice Ar r.1.2.length cr, .slice Br r.2.length dr]) r W from fun W hb => OwnQ.below Hr.out hb)
  have OUr := Lib.hid (show ∀ W, Below w.heap.size w W → OwnI (.slice Ar r.1.2.length cr) r.1.2 W from fun W hb => (ownQ_open (OQr.out W hb)).2.1)
  have ODr := Lib.hid (show ∀ W, Below w.heap.size w W → OwnI (.slice Br r.2.length dr) r.2 W from fun W hb => (ownQ_open (OQr.out W hb)).2.2.1)
  have OSr := Lib.hid (show ∀ W, Below w.heap.size w W → OwnS (.agg #[.bool r.1.1, .slice Ar r.1.2.length cr]) r.1 W from fun W hb => OwnS.mk (OUr.out W hb))
  clear hr
  have HP := Lib.hid (parts_of ok)
  have HOK := Lib.hid ok
  have HM := Lib.hid hm
  clear ok hm
  have bb0 : Below w.heap.size w ((w.alloc (.cells #[.bool r.1.1, .slice Ar r.1.2.length cr, .slice Br r.2.length dr] 51)).alloc (.cells #[.bool false, .slice none 0 0] 25)) := below_al (below_al (Below.refl _ _) _) _
  have kr := (box_new w #[.bool r.1.1, .slice Ar r.1.2.length cr, .slice Br r.2.length dr] 51).below (below_al (Below.refl _ _) (.cells #[.bool false, .slice none 0 0] 25))
  have ko := (box_new (w.alloc (.cells #[.bool r.1.1, .slice Ar r.1.2.length cr, .slice Br r.2.length dr] 51)) #[.bool false, .slice none 0 0] 25)
  rw [show (w.alloc (.cells #[.bool r.1.1, .slice Ar r.1.2.length cr, .slice Br r.2.length dr] 51)).heap.size = w.heap.size + 1 by simp] at ko
  have HKO := Lib.hid (ko.lt (w.heap.size + 1) (by simp))
  obtain ⟨Q, hQ⟩ : ∃ Q, topN r / denQ r = Q := ⟨_, rfl⟩
  obtain ⟨R, hR⟩ : ∃ R, topN r % denQ r = R := ⟨_, rfl⟩
  have EQ := Lib.hid hQ
  have ER := Lib.hid hR
  have hql : (limbs Q).length ≤ 18 := by rw [← hQ]; exact quot_len HOK.out
  have hrl : (limbs R).length ≤ 18 := by rw [← hR]; exact rest_len HOK.out
  have hnl := HP.out.n50
  have hdl := HP.out.d50
  have hdv : ∀ W, Below w.heap.size w W → Calls Tryz.prog 164 #[.slice Ar r.1.2.length cr, .slice Br r.2.length dr] W (TwoRows (limbs Q) (limbs R) W) := fun W hb => by
    have h := specDiv_any _ _ r.1.2 r.2 0 _ 0 _ W (by omega) (by omega) (okQ_parts HOK.out).2.2.1 (Nat.le_refl _) (Nat.le_refl _) (natOk_parts (okS_parts HP.out.okn).1).1 ⟨(natOk_parts HP.out.okd).1, (natOk_parts HP.out.okd).2.2⟩ (OUr.out _ hb).row (ODr.out _ hb).row
    rw [quot_of HOK.out, rest_of HOK.out, hQ, hR] at h
    exact h
  have HDV := Lib.hid hdv
  clear hdv hQ hR
  go_enter Tryz.func129, Tryz.ntmps129
  have kr_c0 := kr.here.cell 0 _ rfl
  have kr_c1 := kr.here.cell 1 _ rfl
  have kr_c2 := kr.here.cell 2 _ rfl
  go_wp2_with fail
  clear kr_c0 kr_c1 kr_c2
  refine (HDV.out _ bb0).mono ?_
  rintro e w1 ⟨vq, vr_, rfl, oq0, or0, hqr, b1⟩
  obtain ⟨Aq, cq, rfl⟩ := own_len oq0
  obtain ⟨As, cs, rfl⟩ := own_len or0
  have oq := own_at' oq0
  have os := own_at' or0
  clear oq0 or0 hqr
  have bb1 := Below.next bb0 b1
  replace kr := kr.below b1
  replace ko := ko.below b1
  by_cases h0 : R = 0
  · have HV := Lib.hid (show mkS r.1.1 (trimL (limbs Q)) = roundS r m by rw [trimL_limbs, ← EQ.out]; exact round_plain (.inl (ER.out.trans h0)))
    subst h0
    rw [show (limbs 0).length = 0 by rw [limbs_zero]; rfl] at *
    clear os
    have kr_c0 := kr.here.cell 0 _ rfl
    have kr_c1 := kr.here.cell 1 _ rfl
    have kr_c2 := kr.here.cell 2 _ rfl
    go_wp2_with fail
    clear kr_c0 kr_c1 kr_c2
    refine ((l04Make_any _ _ (limbs Q) _ _ (by omega) (At.here oq)).mono fun _ _ h => roundVS_eq HV.out (NewS.newV h)).mono ?_
    rintro e w2 ⟨uf, Sf, rfl, of, lf, b2⟩
    obtain ⟨Af, cf, rfl⟩ := ownS_form of.here
    have bb2 := Below.next bb1 b2
    replace kr := kr.below b2
    replace ko := ko.below b2
    replace oq := oq.below b2
    have HW := Lib.hid (newS_at (r := w.heap.size + 1) of lf (by have := HKO.out; have := b1.size; omega) (by omega) bb2)
    have cz0 := ko.here.cell 0 _ rfl
    have fz0 := Lib.frozen_of_heap ko.here 0
    have cz1 := ko.here.cell 1 _ rfl
    have fz1 := Lib.frozen_of_heap ko.here 1
    clear of ko
    go_wp2
    refine bodyPost_ret (v := .agg #[.bool _, .slice Af _ cf]) (by simp [results, Tryz.results129, go_sem, cz0, cz1]; exact ⟨rfl, rfl⟩) rfl ?_
    exact HW.out
  · have hlen : ((limbs R).length : Int) > 0 := by have := mt (limbs_zero_iff R).1 h0; omega
    have H0 := Lib.hid h0
    clear h0
    have kr_c0 := kr.here.cell 0 _ rfl
    have kr_c1 := kr.here.cell 1 _ rfl
    have kr_c2 := kr.here.cell 2 _ rfl
    go_wp2_with fail
    clear kr_c0 kr_c1 kr_c2
    refine (l06Away_any _ _ _ r.1.1 Q R (denQ r) _ (by omega) hrl (by have := HP.out.d50; have e := HP.out.d; rw [← e]; exact (okQ_parts HOK.out).2.2.2.1) oq.here os.here (ownI_eq (ODr.out _ bb1) HP.out.d) m HM.out).mono ?_
    rintro e w2 ⟨rfl, b2⟩
    have bb2 := Below.next bb1 b2
    replace kr := kr.below b2
    replace ko := ko.below b2
    replace oq := oq.below b2
    replace os := os.below b2
    by_cases ha : awayB r.1.1 Q R (denQ r) m = true
    · have HV := Lib.hid (show mkS r.1.1 (trimL (addL (limbs Q) [1] 0)) = roundS r m by rw [one_more, ← EQ.out]; exact round_more (by rw [ER.out]; exact H0.out) (by rw [EQ.out, ER.out]; exact ha))
      rw [ha]
      clear ha
      have o1 := World.ownsRow_lit (base := w2.heap.size) (e := 3) (size := 1) w2 #[.int .i64 1] 1 (Nat.le_refl _) (by unfold maxLen; omega) rfl
      have HO1 := Lib.hid o1
      clear o1
      have kt := box_new (w2) #[.int .i64 1] 3
      have alt := below_al (Below.refl (w2).heap.size (w2)) (.cells #[.int .i64 1] 3)
      have bbt := Below.next bb2 alt
      replace kr := kr.below alt
      replace ko := ko.below alt
      replace oq := oq.below alt
      replace os := os.below alt
      go_wp2_with fail
      refine (specAdd_any _ _ (limbs Q) [1] 0 _ _ _ _ (by omega) (by decide) (Nat.le_refl _) (Nat.le_refl _) (limbs_digN Q) (by rw [← one_limbs]; exact limbs_digN 1) oq.here.row (Row.of_own HO1.out)).mono ?_
      rintro e w3 ⟨vs, rfl, osum0, b3⟩
      obtain ⟨Az, cz, rfl⟩ := own_len osum0
      have osum := own_at' osum0
      clear osum0
      have bb3 := Below.next bbt b3
      replace kr := kr.below b3
      replace ko := ko.below b3
      replace oq := oq.below b3
      replace os := os.below b3
      replace kt := kt.below b3
      have hsl : (addL (limbs Q) [1] 0).length ≤ 1048576 := by have := (addL_val (limbs Q) [1] 0 (limbs_digN Q) (by rw [← one_limbs]; exact limbs_digN 1) (by omega) (by omega)).2.2; simp only [List.length_cons, List.length_nil] at this; omega
      clear oq os kt
      have kr_c0 := kr.here.cell 0 _ rfl
      have kr_c1 := kr.here.cell 1 _ rfl
      have kr_c2 := kr.here.cell 2 _ rfl
      go_wp2_with fail
      clear kr_c0 kr_c1 kr_c2
      refine ((l04Make_any _ _ (addL (limbs Q) [1] 0) _ _ (hsl) (At.here osum)).mono fun _ _ h => roundVS_eq HV.out (NewS.newV h)).mono ?_
      rintro e w4 ⟨uf, Sf, rfl, of, lf, b4⟩
      obtain ⟨Af, cf, rfl⟩ := ownS_form of.here
      have bb4 := Below.next bb3 b4
      replace kr := kr.below b4
      replace ko := ko.below b4
      replace osum := osum.below b4
      have HW := Lib.hid (newS_at (r := w.heap.size + 1) of lf (by have := HKO.out; have := b1.size; have := b2.size; have := b3.size; have := alt.size; omega) (by omega) bb4)
      have cz0 := ko.here.cell 0 _ rfl
      have fz0 := Lib.frozen_of_heap ko.here 0
      have cz1 := ko.here.cell 1 _ rfl
      have fz1 := Lib.frozen_of_heap ko.here 1
      clear of ko
      go_wp2
      refine bodyPost_ret (v := .agg #[.bool _, .slice Af _ cf]) (by simp [results, Tryz.results129, go_sem, cz0, cz1]; exact ⟨rfl, rfl⟩) rfl ?_
      exact HW.out
    · have ha' : awayB r.1.1 Q R (denQ r) m = false := by simpa using ha
      have HV := Lib.hid (show mkS r.1.1 (trimL (limbs Q)) = roundS r m by rw [trimL_limbs, ← EQ.out]; exact round_plain (.inr (by rw [EQ.out, ER.out]; exact ha')))
      rw [ha']
      clear ha ha' os
      have kr_c0 := kr.here.cell 0 _ rfl
      have kr_c1 := kr.here.cell 1 _ rfl
      have kr_c2 := kr.here.cell 2 _ rfl
      go_wp2_with fail
      clear kr_c0 kr_c1 kr_c2
      refine ((l04Make_any _ _ (limbs Q) _ _ (by omega) (At.here oq)).mono fun _ _ h => roundVS_eq HV.out (NewS.newV h)).mono ?_
      rintro e w3 ⟨uf, Sf, rfl, of, lf, b3⟩
      obtain ⟨Af, cf, rfl⟩ := ownS_form of.here
      have bb3 := Below.next bb2 b3
      replace kr := kr.below b3
      replace ko := ko.below b3
      replace oq := oq.below b3
      have HW := Lib.hid (newS_at (r := w.heap.size + 1) of lf (by have := HKO.out; have := b1.size; have := b2.size; omega) (by omega) bb3)
      have cz0 := ko.here.cell 0 _ rfl
      have fz0 := Lib.frozen_of_heap ko.here 0
      have cz1 := ko.here.cell 1 _ rfl
      have fz1 := Lib.frozen_of_heap ko.here 1
      clear of ko
      go_wp2
      refine bodyPost_ret (v := .agg #[.bool _, .slice Af _ cf]) (by simp [results, Tryz.results129, go_sem, cz0, cz1]; exact ⟨rfl, rfl⟩) rfl ?_
      exact HW.out
set_option maxHeartbeats 2000000 in
set_option maxRecDepth 100000 in
theorem specRatRound_any (vr : Value) (r : QI) (m : Int) (w : World) (hz : szQ r ≤ 1048576) (hr : OwnQ vr r w) :
    Calls Tryz.prog 91 #[vr, .int .i64 m] w (PostSb (roundR r m).1 (roundR r m).2 w) := by
  have Hr := Lib.hid hr
  obtain ⟨Ar, cr, Br, dr, rfl⟩ := ownQ_form hr
  have OQr := Lib.hid (show ∀ W, Below w.heap.size w W → OwnQ (.agg #[.bool r.1.1, .slice Ar r.1.2.length cr, .slice Br r.2.length dr]) r W from fun W hb => OwnQ.below Hr.out hb)
  have OUr := Lib.hid (show ∀ W, Below w.heap.size w W → OwnI (.slice Ar r.1.2.length cr) r.1.2 W from fun W hb => (ownQ_open (OQr.out W hb)).2.1)
  have ODr := Lib.hid (show ∀ W, Below w.heap.size w W → OwnI (.slice Br r.2.length dr) r.2 W from fun W hb => (ownQ_open (OQr.out W hb)).2.2.1)
  have OSr := Lib.hid (show ∀ W, Below w.heap.size w W → OwnS (.agg #[.bool r.1.1, .slice Ar r.1.2.length cr]) r.1 W from fun W hb => OwnS.mk (OUr.out W hb))
  clear hr
  have bb0 : Below w.heap.size w ((w.alloc (.cells #[.bool r.1.1, .slice Ar r.1.2.length cr, .slice Br r.2.length dr] 51)).alloc (.cells #[.bool false, .slice none 0 0] 25)) := below_al (below_al (Below.refl _ _) _) _
  have kr := (box_new w #[.bool r.1.1, .slice Ar r.1.2.length cr, .slice Br r.2.length dr] 51).below (below_al (Below.refl _ _) (.cells #[.bool false, .slice none 0 0] 25))
  have ko := (box_new (w.alloc (.cells #[.bool r.1.1, .slice Ar r.1.2.length cr, .slice Br r.2.length dr] 51)) #[.bool false, .slice none 0 0] 25)
  rw [show (w.alloc (.cells #[.bool r.1.1, .slice Ar r.1.2.length cr, .slice Br r.2.length dr] 51)).heap.size = w.heap.size + 1 by simp] at ko
  have HKO := Lib.hid (ko.lt (w.heap.size + 1) (by simp))
  go_enter Tryz.func91, Tryz.ntmps91
  have kr_c0 := kr.here.cell 0 _ rfl
  have kr_c1 := kr.here.cell 1 _ rfl
  have kr_c2 := kr.here.cell 2 _ rfl
  go_wp2_with fail
  clear kr_c0 kr_c1 kr_c2
  refine (specRatOk_any _ r _ hz (OQr.out _ bb0)).mono ?_
  rintro e w1 ⟨rfl, b1⟩
  have bb1 := Below.next bb0 b1
  replace kr := kr.below b1
  replace ko := ko.below b1
  by_cases ok : okQ r = true
  · rw [ok]
    have HO := Lib.hid ok
    clear ok
    go_wp2_with fail
    refine (l06Mode_any m _).mono ?_
    rintro e w2 ⟨rfl, b2⟩
    have bb2 := Below.next bb1 b2
    replace kr := kr.below b2
    replace ko := ko.below b2
    by_cases hm : modeB m = true
    · rw [hm]
      have HM := Lib.hid hm
      have HV := Lib.hid (show roundR r m = (roundS r m, true) by unfold roundR; rw [if_pos ⟨HO.out, hm⟩])
      clear hm
      have kr_c0 := kr.here.cell 0 _ rfl
      have kr_c1 := kr.here.cell 1 _ rfl
      have kr_c2 := kr.here.cell 2 _ rfl
      go_wp2_with fail
      clear kr_c0 kr_c1 kr_c2
      refine (l06Round_any _ r m _ HO.out HM.out (OQr.out _ bb2)).mono ?_
      rintro e w3 ⟨uf, Sf, rfl, of, lf, b3⟩
      obtain ⟨Af, cf, rfl⟩ := ownS_form of.here
      have bb3 := Below.next bb2 b3
      replace kr := kr.below b3
      replace ko := ko.below b3
      have HW := Lib.hid (newSb_at (b := true) (r := w.heap.size + 1) of lf (by have := HKO.out; have := b1.size; have := b2.size; omega) (by omega) bb3)
      have cz0 := ko.here.cell 0 _ rfl
      have fz0 := Lib.frozen_of_heap ko.here 0
      have cz1 := ko.here.cell 1 _ rfl
      have fz1 := Lib.frozen_of_heap ko.here 1
      clear of ko
      go_wp2
      refine bodyPost_ret (v := .tuple #[.agg #[.bool _, .slice Af _ cf], .bool _]) (by simp [results, Tryz.results91, go_sem, cz0, cz1]; exact ⟨⟨rfl, rfl⟩, rfl⟩) rfl ?_
      rw [HV.out]
      exact HW.out
    · have hm' : modeB m = false := by simpa using hm
      have HV := Lib.hid (show roundR r m = (zeroS, false) by unfold roundR; rw [if_neg (fun h => hm h.2)])
      rw [hm']
      clear hm hm'
      have cz0 := ko.here.cell 0 _ rfl
      have fz0 := Lib.frozen_of_heap ko.here 0
      have cz1 := ko.here.cell 1 _ rfl
      have fz1 := Lib.frozen_of_heap ko.here 1
      go_wp2
      refine bodyPost_ret (v := .tuple #[.agg #[.bool false, .slice none 0 0], .bool false]) (by simp [results, Tryz.results91, go_sem, cz0, cz1]) rfl ?_
      rw [HV.out]
      first | exact newSb_zero _ bb2 | exact newSb_zero _ (below_set2 bb2 (by omega))
  · have ok' : okQ r = false := by simpa using ok
    have HV := Lib.hid (show roundR r m = (zeroS, false) by unfold roundR; rw [if_neg (fun h => ok h.1)])
    rw [ok']
    clear ok ok'
    have cz0 := ko.here.cell 0 _ rfl
    have fz0 := Lib.frozen_of_heap ko.here 0
    have cz1 := ko.here.cell 1 _ rfl
    have fz1 := Lib.frozen_of_heap ko.here 1
    go_wp2
    refine bodyPost_ret (v := .tuple #[.agg #[.bool false, .slice none 0 0], .bool false]) (by simp [results, Tryz.results91, go_sem, cz0, cz1]) rfl ?_
    rw [HV.out]
    first | exact newSb_zero _ bb1 | exact newSb_zero _ (below_set2 bb1 (by omega))
end Go.Proofs.YtcenmdiblbooeaaGreatDoor

namespace Go.Proofs.YtcenmdiblbooeaaGreatDoor
open Go.RowKit

theorem subN_sz {x N : QI} {b : Bool} (e : negQ x = (N, b)) : szQ N ≤ 1048576 := by
  have e1 : N = (negQ x).1 := by rw [e]
  rw [e1]
  unfold negQ
  split
  · rename_i h
    have h1 := (parts_of h).d50
    have h2 : (negS x.1).2.length ≤ 50 := by unfold negS; split; exact ofZ_len _; exact Nat.zero_le _
    unfold szQ szS szI
    simp only
    omega
  · decide
set_option maxHeartbeats 2000000 in
set_option maxRecDepth 100000 in
theorem specRatSub_any (vr : Value) (vs : Value) (r s : QI) (w : World) (hzr : szQ r ≤ 1048576) (hzs : szQ s ≤ 1048576) (hr : OwnQ vr r w) (hs : OwnQ vs s w) :
    Calls Tryz.prog 93 #[vr, vs] w (PostQb (subQ r s).1 (subQ r s).2 w) := by
  have Hr := Lib.hid hr
  obtain ⟨Ar, cr, Br, dr, rfl⟩ := ownQ_form hr
  have OQr := Lib.hid (show ∀ W, Below w.heap.size w W → OwnQ (.agg #[.bool r.1.1, .slice Ar r.1.2.length cr, .slice Br r.2.length dr]) r W from fun W hb => OwnQ.below Hr.out hb)
  have OUr := Lib.hid (show ∀ W, Below w.heap.size w W → OwnI (.slice Ar r.1.2.length cr) r.1.2 W from fun W hb => (ownQ_open (OQr.out W hb)).2.1)
  have ODr := Lib.hid (show ∀ W, Below w.heap.size w W → OwnI (.slice Br r.2.length dr) r.2 W from fun W hb => (ownQ_open (OQr.out W hb)).2.2.1)
  have OSr := Lib.hid (show ∀ W, Below w.heap.size w W → OwnS (.agg #[.bool r.1.1, .slice Ar r.1.2.length cr]) r.1 W from fun W hb => OwnS.mk (OUr.out W hb))
  clear hr
  have Hs := Lib.hid hs
  obtain ⟨As, cs, Bs, ds, rfl⟩ := ownQ_form hs
  have OQs := Lib.hid (show ∀ W, Below w.heap.size w W → OwnQ (.agg #[.bool s.1.1, .slice As s.1.2.length cs, .slice Bs s.2.length ds]) s W from fun W hb => OwnQ.below Hs.out hb)
  have OUs := Lib.hid (show ∀ W, Below w.heap.size w W → OwnI (.slice As s.1.2.length cs) s.1.2 W from fun W hb => (ownQ_open (OQs.out W hb)).2.1)
  have ODs := Lib.hid (show ∀ W, Below w.heap.size w W → OwnI (.slice Bs s.2.length ds) s.2 W from fun W hb => (ownQ_open (OQs.out W hb)).2.2.1)
  have OSs := Lib.hid (show ∀ W, Below w.heap.size w W → OwnS (.agg #[.bool s.1.1, .slice As s.1.2.length cs]) s.1 W from fun W hb => OwnS.mk (OUs.out W hb))
  clear hs
  have bb0 : Below w.heap.size w (((w.alloc (.cells #[.bool r.1.1, .slice Ar r.1.2.length cr, .slice Br r.2.length dr] 51)).alloc (.cells #[.bool s.1.1, .slice As s.1.2.length cs, .slice Bs s.2.length ds] 51)).alloc (.cells #[.bool false, .slice none 0 0, .slice none 0 0] 51)) := below_al (below_al (below_al (Below.refl _ _) _) _) _
  have kr := (box_new w #[.bool r.1.1, .slice Ar r.1.2.length cr, .slice Br r.2.length dr] 51).below (below_al (below_al (Below.refl _ _) (.cells #[.bool s.1.1, .slice As s.1.2.length cs, .slice Bs s.2.length ds] 51)) (.cells #[.bool false, .slice none 0 0, .slice none 0 0] 51))
  have ks := (box_new (w.alloc (.cells #[.bool r.1.1, .slice Ar r.1.2.length cr, .slice Br r.2.length dr] 51)) #[.bool s.1.1, .slice As s.1.2.length cs, .slice Bs s.2.length ds] 51).below (below_al (Below.refl _ _) (.cells #[.bool false, .slice none 0 0, .slice none 0 0] 51))
  rw [show (w.alloc (.cells #[.bool r.1.1, .slice Ar r.1.2.length cr, .slice Br r.2.length dr] 51)).heap.size = w.heap.size + 1 by simp] at ks
  have ko := (box_new ((w.alloc (.cells #[.bool r.1.1, .slice Ar r.1.2.length cr, .slice Br r.2.length dr] 51)).alloc (.cells #[.bool s.1.1, .slice As s.1.2.length cs, .slice Bs s.2.length ds] 51)) #[.bool false, .slice none 0 0, .slice none 0 0] 51)
  rw [show ((w.alloc (.cells #[.bool r.1.1, .slice Ar r.1.2.length cr, .slice Br r.2.length dr] 51)).alloc (.cells #[.bool s.1.1, .slice As s.1.2.length cs, .slice Bs s.2.length ds] 51)).heap.size = w.heap.size + 1 + 1 by simp] at ko
  obtain ⟨⟨N, bo⟩, hQ⟩ : ∃ q, negQ s = q := ⟨_, rfl⟩
  have EQ := Lib.hid hQ
  have hzN := subN_sz hQ
  have HD := Lib.hid (show subQ r s = if bo = true then addQ r N else (zeroQ, false) by unfold subQ; rw [hQ])
  obtain ⟨Q, hA⟩ : ∃ Q, addQ r N = Q := ⟨_, rfl⟩
  have EA := Lib.hid hA
  rw [hA] at HD
  clear hQ hA
  have HKO := Lib.hid (ko.lt (w.heap.size + 1 + 1) (by simp))
  go_enter Tryz.func93, Tryz.ntmps93
  have ks_c0 := ks.here.cell 0 _ rfl
  have ks_c1 := ks.here.cell 1 _ rfl
  have ks_c2 := ks.here.cell 2 _ rfl
  go_wp2_with fail
  clear ks_c0 ks_c1 ks_c2
  refine (show Calls _ _ _ _ (PostQb N bo _) from (specRatNeg_any _ s _ hzs (OQs.out _ bb0)).mono fun _ _ h => postQb_eq EQ.out h).mono ?_
  rintro e w1 ⟨un, Sn, rfl, on, ln, b1⟩
  obtain ⟨An, cn, Bn, dn, rfl⟩ := ownQ_form on.here
  have bb1 := Below.next bb0 b1
  replace kr := kr.below b1
  replace ks := ks.below b1
  replace ko := ko.below b1
  cases bo with
  | true =>
    have HV := Lib.hid (show subQ r s = Q by rw [HD.out]; rfl)
    clear HD
    have kt := box_new (w1) #[.bool N.1.1, .slice An N.1.2.length cn, .slice Bn N.2.length dn] 51
    have alt := below_al (Below.refl (w1).heap.size (w1)) (.cells #[.bool N.1.1, .slice An N.1.2.length cn, .slice Bn N.2.length dn] 51)
    have bbt := Below.next bb1 alt
    replace kr := kr.below alt
    replace ks := ks.below alt
    replace ko := ko.below alt
    replace on := on.below alt
    have kt_c0 := kt.here.cell 0 _ rfl
    have kt_c1 := kt.here.cell 1 _ rfl
    have kt_c2 := kt.here.cell 2 _ rfl
    have kr_c0 := kr.here.cell 0 _ rfl
    have kr_c1 := kr.here.cell 1 _ rfl
    have kr_c2 := kr.here.cell 2 _ rfl
    go_wp2_with fail
    clear kt_c0 kt_c1 kt_c2 kr_c0 kr_c1 kr_c2
    refine ((specRatAdd_any _ _ r N _ hzr hzN (OQr.out _ bbt) on.here).mono fun _ _ h => postQb_eq EA.out h).mono ?_
    rintro e w2 ⟨uf, Sf, rfl, of, lf, b2⟩
    obtain ⟨Af, cf, Bf, df, rfl⟩ := ownQ_form of.here
    have bb2 := Below.next bbt b2
    replace kr := kr.below b2
    replace ks := ks.below b2
    replace ko := ko.below b2
    replace on := on.below b2
    replace kt := kt.below b2
    clear on kt kr ks
    have HW := Lib.hid (newQb_at (r := w.heap.size + 1 + 1) (b := Q.2) of lf (by have h1 := HKO.out; have h2 := b1.size; have h3 := alt.size; omega) (by omega) bb2)
    have cz0 := ko.here.cell 0 _ rfl
    have fz0 := Lib.frozen_of_heap ko.here 0
    have cz1 := ko.here.cell 1 _ rfl
    have fz1 := Lib.frozen_of_heap ko.here 1
    have cz2 := ko.here.cell 2 _ rfl
    have fz2 := Lib.frozen_of_heap ko.here 2
    clear of ko
    go_wp2
    refine bodyPost_ret (v := .tuple #[.agg #[.bool _, .slice Af _ cf, .slice Bf _ df], .bool _]) (by simp [results, Tryz.results93, go_sem, cz0, cz1, cz2]; exact ⟨⟨rfl, rfl, rfl⟩, rfl⟩) rfl ?_
    rw [HV.out]
    exact HW.out
  | false =>
    have HV := Lib.hid (show subQ r s = (zeroQ, false) by rw [HD.out]; rfl)
    clear HD on
    have kt := box_new (w1) #[.bool N.1.1, .slice An N.1.2.length cn, .slice Bn N.2.length dn] 51
    have alt := below_al (Below.refl (w1).heap.size (w1)) (.cells #[.bool N.1.1, .slice An N.1.2.length cn, .slice Bn N.2.length dn] 51)
    have bbt := Below.next bb1 alt
    replace kr := kr.below alt
    replace ks := ks.below alt
    replace ko := ko.below alt
    have ko_c0 := ko.here.cell 0 _ rfl
    have ko_c1 := ko.here.cell 1 _ rfl
    have ko_c2 := ko.here.cell 2 _ rfl
    have cz0 := ko.here.cell 0 _ rfl
    have fz0 := Lib.frozen_of_heap ko.here 0
    have cz1 := ko.here.cell 1 _ rfl
    have fz1 := Lib.frozen_of_heap ko.here 1
    have cz2 := ko.here.cell 2 _ rfl
    have fz2 := Lib.frozen_of_heap ko.here 2
    go_wp2
    refine bodyPost_ret (v := .tuple #[.agg #[.bool false, .slice none 0 0, .slice none 0 0], .bool false]) (by simp [results, Tryz.results93, go_sem, cz0, cz1, cz2]) rfl ?_
    rw [HV.out]
    first | exact newQb_zero _ bbt | exact newQb_zero _ (below_set3 bbt (by omega))
end Go.Proofs.YtcenmdiblbooeaaGreatDoor

namespace Go.Proofs.YtcenmdiblbooeaaGreatDoor
open Go.RowKit

set_option maxHeartbeats 4000000 in
set_option maxRecDepth 100000 in
theorem specRatRest_any (vr : Value) (r : QI) (m : Int) (w : World) (hz : szQ r ≤ 1048576) (hr : OwnQ vr r w) :
    Calls Tryz.prog 56 #[vr, .int .i64 m] w (PostSQb (restS r m) (restQ r m) (restB r m) w) := by
  have Hr := Lib.hid hr
  obtain ⟨Ar, cr, Br, dr, rfl⟩ := ownQ_form hr
  have OQr := Lib.hid (show ∀ W, Below w.heap.size w W → OwnQ (.agg #[.bool r.1.1, .slice Ar r.1.2.length cr, .slice Br r.2.length dr]) r W from fun W hb => OwnQ.below Hr.out hb)
  have OUr := Lib.hid (show ∀ W, Below w.heap.size w W → OwnI (.slice Ar r.1.2.length cr) r.1.2 W from fun W hb => (ownQ_open (OQr.out W hb)).2.1)
  have ODr := Lib.hid (show ∀ W, Below w.heap.size w W → OwnI (.slice Br r.2.length dr) r.2 W from fun W hb => (ownQ_open (OQr.out W hb)).2.2.1)
  have OSr := Lib.hid (show ∀ W, Below w.heap.size w W → OwnS (.agg #[.bool r.1.1, .slice Ar r.1.2.length cr]) r.1 W from fun W hb => OwnS.mk (OUr.out W hb))
  clear hr
  have bb0 : Below w.heap.size w (((w.alloc (.cells #[.bool r.1.1, .slice Ar r.1.2.length cr, .slice Br r.2.length dr] 51)).alloc (.cells #[.bool false, .slice none 0 0] 25)).alloc (.cells #[.bool false, .slice none 0 0, .slice none 0 0] 51)) := below_al (below_al (below_al (Below.refl _ _) _) _) _
  have kr := (box_new w #[.bool r.1.1, .slice Ar r.1.2.length cr, .slice Br r.2.length dr] 51).below (below_al (below_al (Below.refl _ _) (.cells #[.bool false, .slice none 0 0] 25)) (.cells #[.bool false, .slice none 0 0, .slice none 0 0] 51))
  have ko := (box_new (w.alloc (.cells #[.bool r.1.1, .slice Ar r.1.2.length cr, .slice Br r.2.length dr] 51)) #[.bool false, .slice none 0 0] 25).below (below_al (Below.refl _ _) (.cells #[.bool false, .slice none 0 0, .slice none 0 0] 51))
  rw [show (w.alloc (.cells #[.bool r.1.1, .slice Ar r.1.2.length cr, .slice Br r.2.length dr] 51)).heap.size = w.heap.size + 1 by simp] at ko
  have kp := (box_new ((w.alloc (.cells #[.bool r.1.1, .slice Ar r.1.2.length cr, .slice Br r.2.length dr] 51)).alloc (.cells #[.bool false, .slice none 0 0] 25)) #[.bool false, .slice none 0 0, .slice none 0 0] 51)
  rw [show ((w.alloc (.cells #[.bool r.1.1, .slice Ar r.1.2.length cr, .slice Br r.2.length dr] 51)).alloc (.cells #[.bool false, .slice none 0 0] 25)).heap.size = w.heap.size + 1 + 1 by simp] at kp
  have HKO := Lib.hid (ko.lt (w.heap.size + 1) (by simp))
  have HKP := Lib.hid (kp.lt (w.heap.size + 1 + 1) (by simp))
  obtain ⟨X, hX⟩ : ∃ X, (roundR r m).1 = X := ⟨_, rfl⟩
  obtain ⟨Y, hY⟩ : ∃ Y, (makeQ X (ofZ 1)).1 = Y := ⟨_, rfl⟩
  obtain ⟨Z, hZ⟩ : ∃ Z, (subQ r Y).1 = Z := ⟨_, rfl⟩
  have zX : szS X ≤ 1048576 := by rw [← hX]; exact roundR_sz r m
  have zY : szQ Y ≤ 1048576 := by rw [← hY]; exact makeQ_szQ _ _
  by_cases hb : okQ r = true ∧ modeB m = true
  · obtain ⟨r1, r2, r3, r4⟩ := rest_all hb.1 hb.2
    have ER := Lib.hid (show roundR r m = (X, true) by rw [r1, ← hX, r1])
    have rp := rest_parts hb.1 m
    have e0 : roundS r m = X := by rw [← hX, r1]
    rw [e0] at rp r3 r4
    rw [hY] at rp r4
    rw [hZ] at r4
    have EM := Lib.hid (show makeQ X (ofZ 1) = (Y, true) by rw [← hY, ← rp.1])
    have ES := Lib.hid (show subQ r Y = (Z, true) by rw [← hZ, ← rp.2])
    have HV := Lib.hid (show restS r m = X ∧ restQ r m = Z ∧ restB r m = true from ⟨r3, r4, r2⟩)
    clear rp e0
    clear hX hY hZ r1 r2 r3 r4 hb
    go_enter Tryz.func56, Tryz.ntmps56
    have kr_c0 := kr.here.cell 0 _ rfl
    have kr_c1 := kr.here.cell 1 _ rfl
    have kr_c2 := kr.here.cell 2 _ rfl
    go_wp2_with fail
    clear kr_c0 kr_c1 kr_c2
    refine ((specRatRound_any _ r m _ hz (OQr.out _ bb0)).mono fun _ _ h => postSb_is ER.out h).mono ?_
    rintro e w1 ⟨ux, Sx, rfl, ox, lx, b1⟩
    obtain ⟨Ax, cx, rfl⟩ := ownS_form ox.here
    have bb1 := Below.next bb0 b1
    replace kr := kr.below b1
    replace ko := ko.below b1
    replace kp := kp.below b1
    have kx := box_new (w1) #[.bool X.1, .slice Ax X.2.length cx] 25
    have alx := below_al (Below.refl (w1).heap.size (w1)) (.cells #[.bool X.1, .slice Ax X.2.length cx] 25)
    have bbx := Below.next bb1 alx
    replace kr := kr.below alx
    replace ko := ko.below alx
    replace kp := kp.below alx
    replace ox := ox.below alx
    have kx_c0 := kx.here.cell 0 _ rfl
    have kx_c1 := kx.here.cell 1 _ rfl
    go_wp2_with fail
    clear kx_c0 kx_c1
    refine ((specRatInt_any _ X _ zX ox.here).mono fun _ _ h => postQb_is EM.out h).mono ?_
    rintro e w2 ⟨uy, Sy, rfl, oy, ly, b2⟩
    obtain ⟨Ay, cy, By, dy, rfl⟩ := ownQ_form oy.here
    have bb2 := Below.next bbx b2
    replace kr := kr.below b2
    replace ko := ko.below b2
    replace kp := kp.below b2
    replace ox := ox.below b2
    replace kx := kx.below b2
    have ky := box_new (w2) #[.bool Y.1.1, .slice Ay Y.1.2.length cy, .slice By Y.2.length dy] 51
    have aly := below_al (Below.refl (w2).heap.size (w2)) (.cells #[.bool Y.1.1, .slice Ay Y.1.2.length cy, .slice By Y.2.length dy] 51)
    have bby := Below.next bb2 aly
    replace kr := kr.below aly
    replace ko := ko.below aly
    replace kp := kp.below aly
    replace ox := ox.below aly
    replace kx := kx.below aly
    replace oy := oy.below aly
    have kr_c0 := kr.here.cell 0 _ rfl
    have kr_c1 := kr.here.cell 1 _ rfl
    have kr_c2 := kr.here.cell 2 _ rfl
    have ky_c0 := ky.here.cell 0 _ rfl
    have ky_c1 := ky.here.cell 1 _ rfl
    have ky_c2 := ky.here.cell 2 _ rfl
    go_wp2_with fail
    clear kr_c0 kr_c1 kr_c2 ky_c0 ky_c1 ky_c2
    refine ((specRatSub_any _ _ r Y _ hz zY (OQr.out _ bby) oy.here).mono fun _ _ h => postQb_is ES.out h).mono ?_
    rintro e w3 ⟨uz, Sz, rfl, oz, lz, b3⟩
    obtain ⟨Az, cz, Bz, dz, rfl⟩ := ownQ_form oz.here
    have bb3 := Below.next bby b3
    replace kr := kr.below b3
    replace ko := ko.below b3
    replace kp := kp.below b3
    replace ox := ox.below b3
    replace kx := kx.below b3
    replace oy := oy.below b3
    replace ky := ky.below b3
    have kz := box_new (w3) #[.bool Z.1.1, .slice Az Z.1.2.length cz, .slice Bz Z.2.length dz] 51
    have alz := below_al (Below.refl (w3).heap.size (w3)) (.cells #[.bool Z.1.1, .slice Az Z.1.2.length cz, .slice Bz Z.2.length dz] 51)
    have bbz := Below.next bb3 alz
    replace kr := kr.below alz
    replace ko := ko.below alz
    replace kp := kp.below alz
    replace ox := ox.below alz
    replace kx := kx.below alz
    replace oy := oy.below alz
    replace ky := ky.below alz
    replace oz := oz.below alz
    have z1 := b1.size
    have z2 := b2.size
    have z3 := b3.size
    have zx := alx.size
    have zy := aly.size
    have zz := alz.size
    have HKX := Lib.hid (kx.lt _ (List.mem_singleton.2 rfl))
    have HW := Lib.hid (newSQb_at (b := true) (r := w.heap.size + 1) (p := w.heap.size + 1 + 1) ox oz (within_up lx (Nat.le_refl _) (Nat.le_trans zx (Nat.le_trans z2 (Nat.le_trans zy (Nat.le_trans z3 zz))))) (within_up lz (Nat.le_refl _) zz) (Within.apart lx lz (.inl (Nat.le_trans zx (Nat.le_trans z2 zy)))) HKP.out (Nat.lt_of_lt_of_le HKP.out (Nat.le_trans z1 (Nat.le_trans zx (Nat.le_trans z2 zy)))) (by omega) (by omega) (by omega) bbz)
    have hs1 := HKP.out
    have hs2 := Nat.lt_of_lt_of_le HKP.out z1
    have hs3 := Nat.lt_of_lt_of_le hs2 (Nat.le_trans zx (Nat.le_trans z2 (Nat.le_trans zy z3)))
    have hn_w1_1 : ¬ w1.heap.size = w.heap.size + 1 := by omega
    have hn_w1_1' : ¬ w.heap.size + 1 = w1.heap.size := by omega
    have hn_w1_2 : ¬ w1.heap.size = w.heap.size + 1 + 1 := by omega
    have hn_w1_2' : ¬ w.heap.size + 1 + 1 = w1.heap.size := by omega
    have hn_w3_1 : ¬ w3.heap.size = w.heap.size + 1 := by omega
    have hn_w3_1' : ¬ w.heap.size + 1 = w3.heap.size := by omega
    have hn_w3_2 : ¬ w3.heap.size = w.heap.size + 1 + 1 := by omega
    have hn_w3_2' : ¬ w.heap.size + 1 + 1 = w3.heap.size := by omega
    clear hs1 hs2 hs3
    have cko0 := ko.here.cell 0 _ rfl
    have cko1 := ko.here.cell 1 _ rfl
    have fko0 := Lib.frozen_of_heap ko.here 0
    have fko1 := Lib.frozen_of_heap ko.here 1
    have ckp0 := kp.here.cell 0 _ rfl
    have ckp1 := kp.here.cell 1 _ rfl
    have ckp2 := kp.here.cell 2 _ rfl
    have fkp0 := Lib.frozen_of_heap kp.here 0
    have fkp1 := Lib.frozen_of_heap kp.here 1
    have fkp2 := Lib.frozen_of_heap kp.here 2
    have ckx0 := kx.here.cell 0 _ rfl
    have ckx1 := kx.here.cell 1 _ rfl
    have ckz0 := kz.here.cell 0 _ rfl
    have ckz1 := kz.here.cell 1 _ rfl
    have ckz2 := kz.here.cell 2 _ rfl
    clear ox oy oz ko kp kr kx ky kz z1 z2 z3 zx zy zz lx ly lz
    go_wp2_with fail
    go_region
    all_goals (go_wp2; refine bodyPost_ret (v := .tuple #[.agg #[.bool X.1, .slice Ax X.2.length cx], .agg #[.bool Z.1.1, .slice Az Z.1.2.length cz, .slice Bz Z.2.length dz], .bool true]) (by simp [results, Tryz.results56, go_sem, cko0, cko1, ckp0, ckp1, ckp2]) rfl ?_)
    all_goals (rw [HV.out.1, HV.out.2.1, HV.out.2.2]; refine HW.out _ ?_; repeat (first | exact Chg.refl _ _ | refine Chg.setCell ?_ (by simp) _ | refine Chg.drew1 ?_))
  · obtain ⟨r1, r2, r3, r4⟩ := rest_none hb
    have ER := Lib.hid (show roundR r m = (X, false) by rw [r1, ← hX, r1])
    have HV := Lib.hid (show restS r m = zeroS ∧ restQ r m = zeroQ ∧ restB r m = false from ⟨r3, r4, r2⟩)
    obtain ⟨by_, hby⟩ : ∃ b, (makeQ X (ofZ 1)).2 = b := ⟨_, rfl⟩
    obtain ⟨bz_, hbz⟩ : ∃ b, (subQ r Y).2 = b := ⟨_, rfl⟩
    have EM := Lib.hid (show makeQ X (ofZ 1) = (Y, by_) by rw [← hY, ← hby])
    have ES := Lib.hid (show subQ r Y = (Z, bz_) by rw [← hZ, ← hbz])
    clear hby hbz
    clear hX hY hZ r1 r2 r3 r4 hb
    go_enter Tryz.func56, Tryz.ntmps56
    have kr_c0 := kr.here.cell 0 _ rfl
    have kr_c1 := kr.here.cell 1 _ rfl
    have kr_c2 := kr.here.cell 2 _ rfl
    go_wp2_with fail
    clear kr_c0 kr_c1 kr_c2
    refine ((specRatRound_any _ r m _ hz (OQr.out _ bb0)).mono fun _ _ h => postSb_is ER.out h).mono ?_
    rintro e w1 ⟨ux, Sx, rfl, ox, lx, b1⟩
    obtain ⟨Ax, cx, rfl⟩ := ownS_form ox.here
    have bb1 := Below.next bb0 b1
    replace kr := kr.below b1
    replace ko := ko.below b1
    replace kp := kp.below b1
    have kx := box_new (w1) #[.bool X.1, .slice Ax X.2.length cx] 25
    have alx := below_al (Below.refl (w1).heap.size (w1)) (.cells #[.bool X.1, .slice Ax X.2.length cx] 25)
    have bbx := Below.next bb1 alx
    replace kr := kr.below alx
    replace ko := ko.below alx
    replace kp := kp.below alx
    replace ox := ox.below alx
    have kx_c0 := kx.here.cell 0 _ rfl
    have kx_c1 := kx.here.cell 1 _ rfl
    go_wp2_with fail
    clear kx_c0 kx_c1
    refine ((specRatInt_any _ X _ zX ox.here).mono fun _ _ h => postQb_is EM.out h).mono ?_
    rintro e w2 ⟨uy, Sy, rfl, oy, ly, b2⟩
    obtain ⟨Ay, cy, By, dy, rfl⟩ := ownQ_form oy.here
    have bb2 := Below.next bbx b2
    replace kr := kr.below b2
    replace ko := ko.below b2
    replace kp := kp.below b2
    replace ox := ox.below b2
    replace kx := kx.below b2
    have ky := box_new (w2) #[.bool Y.1.1, .slice Ay Y.1.2.length cy, .slice By Y.2.length dy] 51
    have aly := below_al (Below.refl (w2).heap.size (w2)) (.cells #[.bool Y.1.1, .slice Ay Y.1.2.length cy, .slice By Y.2.length dy] 51)
    have bby := Below.next bb2 aly
    replace kr := kr.below aly
    replace ko := ko.below aly
    replace kp := kp.below aly
    replace ox := ox.below aly
    replace kx := kx.below aly
    replace oy := oy.below aly
    have kr_c0 := kr.here.cell 0 _ rfl
    have kr_c1 := kr.here.cell 1 _ rfl
    have kr_c2 := kr.here.cell 2 _ rfl
    have ky_c0 := ky.here.cell 0 _ rfl
    have ky_c1 := ky.here.cell 1 _ rfl
    have ky_c2 := ky.here.cell 2 _ rfl
    go_wp2_with fail
    clear kr_c0 kr_c1 kr_c2 ky_c0 ky_c1 ky_c2
    refine ((specRatSub_any _ _ r Y _ hz zY (OQr.out _ bby) oy.here).mono fun _ _ h => postQb_is ES.out h).mono ?_
    rintro e w3 ⟨uz, Sz, rfl, oz, lz, b3⟩
    obtain ⟨Az, cz, Bz, dz, rfl⟩ := ownQ_form oz.here
    have bb3 := Below.next bby b3
    replace kr := kr.below b3
    replace ko := ko.below b3
    replace kp := kp.below b3
    replace ox := ox.below b3
    replace kx := kx.below b3
    replace oy := oy.below b3
    replace ky := ky.below b3
    have kz := box_new (w3) #[.bool Z.1.1, .slice Az Z.1.2.length cz, .slice Bz Z.2.length dz] 51
    have alz := below_al (Below.refl (w3).heap.size (w3)) (.cells #[.bool Z.1.1, .slice Az Z.1.2.length cz, .slice Bz Z.2.length dz] 51)
    have bbz := Below.next bb3 alz
    replace kr := kr.below alz
    replace ko := ko.below alz
    replace kp := kp.below alz
    replace ox := ox.below alz
    replace kx := kx.below alz
    replace oy := oy.below alz
    replace ky := ky.below alz
    replace oz := oz.below alz
    have cko0 := ko.here.cell 0 _ rfl
    have fko0 := Lib.frozen_of_heap ko.here 0
    have cko1 := ko.here.cell 1 _ rfl
    have fko1 := Lib.frozen_of_heap ko.here 1
    have ckp0 := kp.here.cell 0 _ rfl
    have fkp0 := Lib.frozen_of_heap kp.here 0
    have ckp1 := kp.here.cell 1 _ rfl
    have fkp1 := Lib.frozen_of_heap kp.here 1
    have ckp2 := kp.here.cell 2 _ rfl
    have fkp2 := Lib.frozen_of_heap kp.here 2
    go_wp2
    refine bodyPost_ret (v := .tuple #[.agg #[.bool false, .slice none 0 0], .agg #[.bool false, .slice none 0 0, .slice none 0 0], .bool false]) (by simp [results, Tryz.results56, go_sem, cko0, cko1, ckp0, ckp1, ckp2]) rfl ?_
    rw [HV.out.1, HV.out.2.1, HV.out.2.2]
    first | exact newSQb_zero bbz | exact newSQb_zero (below_set3 (below_set2 bbz (by omega)) (by omega))
end Go.Proofs.YtcenmdiblbooeaaGreatDoor

namespace Go.Proofs.YtcenmdiblbooeaaGreatDoor
open Go.RowKit

set_option maxHeartbeats 4000000 in
set_option maxRecDepth 100000 in
theorem specRatMoney_any (cu : ByteArray) (vr : Value) (r : QI) (m : Int) (w : World) (hz : szQ r ≤ 1048576) (hr : OwnQ vr r w) :
    Calls Tryz.prog 23 #[.string cu, vr, .int .i64 m] w (PostMQb (rmM cu r m) (rmQ cu r m) (rmB cu r m) w) := by
  have Hr := Lib.hid hr
  obtain ⟨Ar, cr, Br, dr, rfl⟩ := ownQ_form hr
  have OQr := Lib.hid (show ∀ W, Below w.heap.size w W → OwnQ (.agg #[.bool r.1.1, .slice Ar r.1.2.length cr, .slice Br r.2.length dr]) r W from fun W hb => OwnQ.below Hr.out hb)
  clear hr
  have bb0 : Below w.heap.size w (((w.alloc (.cells #[.bool r.1.1, .slice Ar r.1.2.length cr, .slice Br r.2.length dr] 51)).alloc (.cells #[.string ⟨#[]⟩, .bool false, .slice none 0 0] 27)).alloc (.cells #[.bool false, .slice none 0 0, .slice none 0 0] 51)) := below_al (below_al (below_al (Below.refl _ _) _) _) _
  have kr := (box_new w #[.bool r.1.1, .slice Ar r.1.2.length cr, .slice Br r.2.length dr] 51).below (below_al (below_al (Below.refl _ _) (.cells #[.string ⟨#[]⟩, .bool false, .slice none 0 0] 27)) (.cells #[.bool false, .slice none 0 0, .slice none 0 0] 51))
  have ko := (box_new (w.alloc (.cells #[.bool r.1.1, .slice Ar r.1.2.length cr, .slice Br r.2.length dr] 51)) #[.string ⟨#[]⟩, .bool false, .slice none 0 0] 27).below (below_al (Below.refl _ _) (.cells #[.bool false, .slice none 0 0, .slice none 0 0] 51))
  rw [show (w.alloc (.cells #[.bool r.1.1, .slice Ar r.1.2.length cr, .slice Br r.2.length dr] 51)).heap.size = w.heap.size + 1 by simp] at ko
  have kp := (box_new ((w.alloc (.cells #[.bool r.1.1, .slice Ar r.1.2.length cr, .slice Br r.2.length dr] 51)).alloc (.cells #[.string ⟨#[]⟩, .bool false, .slice none 0 0] 27)) #[.bool false, .slice none 0 0, .slice none 0 0] 51)
  rw [show ((w.alloc (.cells #[.bool r.1.1, .slice Ar r.1.2.length cr, .slice Br r.2.length dr] 51)).alloc (.cells #[.string ⟨#[]⟩, .bool false, .slice none 0 0] 27)).heap.size = w.heap.size + 1 + 1 by simp] at kp
  have HKO := Lib.hid (ko.lt (w.heap.size + 1) (by simp))
  have HKP := Lib.hid (kp.lt (w.heap.size + 1 + 1) (by simp))
  have hzX : (restS r m).2.length ≤ 1048576 := restS_len r m
  obtain ⟨X, hX⟩ : ∃ X, restS r m = X := ⟨_, rfl⟩
  obtain ⟨Y, hY⟩ : ∃ Y, restQ r m = Y := ⟨_, rfl⟩
  obtain ⟨rb, hrb⟩ : ∃ b, restB r m = b := ⟨_, rfl⟩
  obtain ⟨⟨Q, qb⟩, hQ⟩ : ∃ Q, makeM cu X = Q := ⟨_, rfl⟩
  have EX := Lib.hid hX
  have EY := Lib.hid hY
  have EQ := Lib.hid hQ
  have EG := Lib.hid (show rb = true → qb = true → rmM cu r m = Q ∧ rmQ cu r m = Y ∧ rmB cu r m = true from fun h1 h2 => by have h := rm_good (cu := cu) (r := r) (m := m) (by rw [hrb]; exact h1) (by rw [hX, hQ]; exact h2); rw [hX, hQ, hY] at h; exact h)
  have EB := Lib.hid (show rb = false ∨ qb = false → rmM cu r m = zeroM ∧ rmQ cu r m = zeroQ ∧ rmB cu r m = false from fun h => rm_bad (by rw [hrb, hX, hQ]; exact h))
  have ER := Lib.hid hrb
  rw [hX] at hzX
  clear hX hY hrb hQ
  generalize rmM cu r m = RM at *
  generalize rmQ cu r m = RQ at *
  generalize rmB cu r m = RB at *
  go_enter Tryz.func23, Tryz.ntmps23
  have kr_c0 := kr.here.cell 0 _ rfl
  have kr_c1 := kr.here.cell 1 _ rfl
  have kr_c2 := kr.here.cell 2 _ rfl
  go_wp2_with fail
  clear kr_c0 kr_c1 kr_c2
  refine ((specRatRest_any _ r m _ hz (OQr.out _ bb0)).mono fun _ _ h => postSQb_isM EX.out EY.out ER.out h).mono ?_
  rintro e w1 ⟨ux, uy, Sx, Sy, rfl, ox, oy, hap, lx, ly, b1⟩
  obtain ⟨Ax, cx, rfl⟩ := ownS_form ox.here
  obtain ⟨Ay, cy, By, dy, rfl⟩ := ownQ_form oy.here
  have bb1 := Below.next bb0 b1
  replace kr := kr.below b1
  replace ko := ko.below b1
  replace kp := kp.below b1
  have kx := box_new (w1) #[.bool X.1, .slice Ax X.2.length cx] 25
  have alx := below_al (Below.refl (w1).heap.size (w1)) (.cells #[.bool X.1, .slice Ax X.2.length cx] 25)
  have bbx := Below.next bb1 alx
  replace kr := kr.below alx
  replace ko := ko.below alx
  replace kp := kp.below alx
  replace ox := ox.below alx
  replace oy := oy.below alx
  have ky := box_new ((w1.alloc (.cells #[.bool X.1, .slice Ax X.2.length cx] 25))) #[.bool Y.1.1, .slice Ay Y.1.2.length cy, .slice By Y.2.length dy] 51
  have aly := below_al (Below.refl ((w1.alloc (.cells #[.bool X.1, .slice Ax X.2.length cx] 25))).heap.size ((w1.alloc (.cells #[.bool X.1, .slice Ax X.2.length cx] 25)))) (.cells #[.bool Y.1.1, .slice Ay Y.1.2.length cy, .slice By Y.2.length dy] 51)
  have bby := Below.next bbx aly
  replace kr := kr.below aly
  replace ko := ko.below aly
  replace kp := kp.below aly
  replace ox := ox.below aly
  replace oy := oy.below aly
  replace kx := kx.below aly
  have kx_c0 := kx.here.cell 0 _ rfl
  have kx_c1 := kx.here.cell 1 _ rfl
  go_wp2_with fail
  clear kx_c0 kx_c1
  refine ((l09Make_any cu _ X _ _ hzX ox).mono fun _ _ h => keptM_eq EQ.out h).mono ?_
  rintro e w2 ⟨um, Sm, rfl, om, sm, b2⟩
  obtain ⟨Am, cm, rfl⟩ := ownM_form om.here
  have bb2 := Below.next bby b2
  replace kr := kr.below b2
  replace ko := ko.below b2
  replace kp := kp.below b2
  replace ox := ox.below b2
  replace oy := oy.below b2
  replace kx := kx.below b2
  replace ky := ky.below b2
  have km := box_new (w2) #[.string Q.1, .bool Q.2.1, .slice Am Q.2.2.length cm] 27
  have alm := below_al (Below.refl (w2).heap.size (w2)) (.cells #[.string Q.1, .bool Q.2.1, .slice Am Q.2.2.length cm] 27)
  have bbm := Below.next bb2 alm
  replace kr := kr.below alm
  replace ko := ko.below alm
  replace kp := kp.below alm
  replace ox := ox.below alm
  replace oy := oy.below alm
  replace kx := kx.below alm
  replace ky := ky.below alm
  replace om := om.below alm
  cases rb with
  | false =>
    have HV := Lib.hid (EB.out (.inl rfl))
    have cko0 := ko.here.cell 0 _ rfl
    have fko0 := Lib.frozen_of_heap ko.here 0
    have cko1 := ko.here.cell 1 _ rfl
    have fko1 := Lib.frozen_of_heap ko.here 1
    have cko2 := ko.here.cell 2 _ rfl
    have fko2 := Lib.frozen_of_heap ko.here 2
    have ckp0 := kp.here.cell 0 _ rfl
    have fkp0 := Lib.frozen_of_heap kp.here 0
    have ckp1 := kp.here.cell 1 _ rfl
    have fkp1 := Lib.frozen_of_heap kp.here 1
    have ckp2 := kp.here.cell 2 _ rfl
    have fkp2 := Lib.frozen_of_heap kp.here 2
    clear ox oy om ko kp kr kx ky km lx ly sm hap
    go_wp2
    refine bodyPost_ret (v := .tuple #[.agg #[.string ⟨#[]⟩, .bool false, .slice none 0 0], .agg #[.bool false, .slice none 0 0, .slice none 0 0], .bool false]) (by simp [results, Tryz.results23, go_sem, cko0, cko1, cko2, ckp0, ckp1, ckp2]) rfl ?_
    rw [HV.out.1, HV.out.2.1, HV.out.2.2]
    have hle1 : w.heap.size ≤ w.heap.size + 1 := by omega
    have hle2 : w.heap.size ≤ w.heap.size + 1 + 1 := by omega
    first | with_reducible exact newMQb_zero (below_set3 (below_set3 bbm hle1) hle2) | with_reducible exact newMQb_zero bbm
  | true =>
    cases qb with
    | false =>
      have HV := Lib.hid (EB.out (.inr rfl))
      have cko0 := ko.here.cell 0 _ rfl
      have fko0 := Lib.frozen_of_heap ko.here 0
      have cko1 := ko.here.cell 1 _ rfl
      have fko1 := Lib.frozen_of_heap ko.here 1
      have cko2 := ko.here.cell 2 _ rfl
      have fko2 := Lib.frozen_of_heap ko.here 2
      have ckp0 := kp.here.cell 0 _ rfl
      have fkp0 := Lib.frozen_of_heap kp.here 0
      have ckp1 := kp.here.cell 1 _ rfl
      have fkp1 := Lib.frozen_of_heap kp.here 1
      have ckp2 := kp.here.cell 2 _ rfl
      have fkp2 := Lib.frozen_of_heap kp.here 2
      clear ox oy om ko kp kr kx ky km lx ly sm hap
      go_wp2
      refine bodyPost_ret (v := .tuple #[.agg #[.string ⟨#[]⟩, .bool false, .slice none 0 0], .agg #[.bool false, .slice none 0 0, .slice none 0 0], .bool false]) (by simp [results, Tryz.results23, go_sem, cko0, cko1, cko2, ckp0, ckp1, ckp2]) rfl ?_
      rw [HV.out.1, HV.out.2.1, HV.out.2.2]
      have hle1 : w.heap.size ≤ w.heap.size + 1 := by omega
      have hle2 : w.heap.size ≤ w.heap.size + 1 + 1 := by omega
      first | with_reducible exact newMQb_zero (below_set3 (below_set3 bbm hle1) hle2) | with_reducible exact newMQb_zero bbm
    | true =>
      have HV := Lib.hid (EG.out rfl rfl)
      have z1 := b1.size
      have z2 := b2.size
      have zx := alx.size
      have zy := aly.size
      have zm := alm.size
      have e1 : (w1.alloc (.cells #[.bool X.1, .slice Ax X.2.length cx] 25)).heap.size = w1.heap.size + 1 := by simp
      have e2 : ((w1.alloc (.cells #[.bool X.1, .slice Ax X.2.length cx] 25)).alloc (.cells #[.bool Y.1.1, .slice Ay Y.1.2.length cy, .slice By Y.2.length dy] 51)).heap.size = w1.heap.size + 1 + 1 := by simp
      have hko := HKO.out
      have hkp := HKP.out
      have HW := Lib.hid (newMQb_at (b := true) (r := w.heap.size + 1) (p := w.heap.size + 1 + 1) om oy (B := w.heap.size + 3) (C := w.heap.size + 3) (fun i hi => ⟨by have := (lx i (sm i hi)).1; simp at this; omega, om.lt i hi⟩) (fun i hi => ⟨by have := (ly i hi).1; simp at this; omega, oy.lt i hi⟩) (fun i hi => hap i (sm i hi)) (by omega) (by omega) (by omega) (by omega) (by omega) bbm)
      have hw1 : w.heap.size + 3 ≤ w1.heap.size := by simp at z1; omega
      have hw2 : w1.heap.size + 2 ≤ w2.heap.size := by rw [e2] at z2; omega
      have hn_w1_1 : ¬ w1.heap.size = w.heap.size + 1 := by omega
      have hn_w1_1' : ¬ w.heap.size + 1 = w1.heap.size := by omega
      have hn_w1_2 : ¬ w1.heap.size = w.heap.size + 1 + 1 := by omega
      have hn_w1_2' : ¬ w.heap.size + 1 + 1 = w1.heap.size := by omega
      have hn_w2_1 : ¬ w2.heap.size = w.heap.size + 1 := by omega
      have hn_w2_1' : ¬ w.heap.size + 1 = w2.heap.size := by omega
      have hn_w2_2 : ¬ w2.heap.size = w.heap.size + 1 + 1 := by omega
      have hn_w2_2' : ¬ w.heap.size + 1 + 1 = w2.heap.size := by omega
      have hn_y_1 : ¬ w1.heap.size + 1 = w.heap.size + 1 := by omega
      have hn_y_1' : ¬ w.heap.size + 1 = w1.heap.size + 1 := by omega
      have hn_y_2 : ¬ w1.heap.size + 1 = w.heap.size + 1 + 1 := by omega
      have hn_y_2' : ¬ w.heap.size + 1 + 1 = w1.heap.size + 1 := by omega
      rw [e1] at ky
      have cko0 := ko.here.cell 0 _ rfl
      have fko0 := Lib.frozen_of_heap ko.here 0
      have cko1 := ko.here.cell 1 _ rfl
      have fko1 := Lib.frozen_of_heap ko.here 1
      have cko2 := ko.here.cell 2 _ rfl
      have fko2 := Lib.frozen_of_heap ko.here 2
      have ckp0 := kp.here.cell 0 _ rfl
      have fkp0 := Lib.frozen_of_heap kp.here 0
      have ckp1 := kp.here.cell 1 _ rfl
      have fkp1 := Lib.frozen_of_heap kp.here 1
      have ckp2 := kp.here.cell 2 _ rfl
      have fkp2 := Lib.frozen_of_heap kp.here 2
      have ckm0 := km.here.cell 0 _ rfl
      have ckm1 := km.here.cell 1 _ rfl
      have ckm2 := km.here.cell 2 _ rfl
      have cky0 := ky.here.cell 0 _ rfl
      have cky1 := ky.here.cell 1 _ rfl
      have cky2 := ky.here.cell 2 _ rfl
      clear ox oy om ko kp kr kx ky km lx ly sm hap z1 z2 zx zy zm e1 e2 hko hkp hw1 hw2
      go_wp2_with fail
      go_region
      all_goals (go_wp2; refine bodyPost_ret (v := .tuple #[.agg #[.string Q.1, .bool Q.2.1, .slice Am Q.2.2.length cm], .agg #[.bool Y.1.1, .slice Ay Y.1.2.length cy, .slice By Y.2.length dy], .bool true]) (by simp [results, Tryz.results23, go_sem, cko0, cko1, cko2, ckp0, ckp1, ckp2]) rfl ?_)
      all_goals (rw [HV.out.1, HV.out.2.1, HV.out.2.2]; refine HW.out _ ?_; repeat (first | with_reducible exact Chg.refl _ _ | with_reducible refine Chg.drew1 ?_ | with_reducible refine Chg.setCell ?_ (by simp) _))
end Go.Proofs.YtcenmdiblbooeaaGreatDoor
