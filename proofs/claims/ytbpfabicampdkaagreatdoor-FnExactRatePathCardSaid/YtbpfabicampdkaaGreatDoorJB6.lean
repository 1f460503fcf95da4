/-
  Chapter 6 of package spec: what its functions on fractions return.
  Plain facts for impl's fractions: the operations on the parts as RatMake puts them together.
  Contracts of library functions, laid over this program: each is one application of a theorem of the library.
  What math/bits.Div64 returns: the quotient of a number of two words (the remainder is not looked at). Knuth's two digits of 32 bits.
  What the methods of impl.nat do to a number of the call's own that is under construction.
  What addAt, addTimes, takeAt, take and trim of impl.nat do to a number of the call's own.
-/
import Derived.Deep.RegionHeld3
import Derived.Shelf.Bits.Mul64
import Derived.Shelf.Small.Bits
import Derived.Shelf.Small.Strs
import Derived.Shelf.Small.Wraps
import Derived.Shelf.Strconv.Itoa3
import Derived.Shelf.Strings.BuilderK
import Derived.Shelf.Strings.Repeat
import Derived.Shelf.Strings.Search2
import Derived.Shelf.Strings.Trim
import Derived.Test.YtbpfabicampdkaaGreatDoorProg
import Derived.Deep.Cut
import Derived.Deep.CutBlock
import Derived.Laws.Bits64b
import Derived.Lib.BitFns
import Derived.Lib.Builder
import Derived.Lib.SliceRun
import Derived.Deep.LoopGhost
import Derived.Test.YtbpfabicampdkaaGreatDoorJB5
namespace Go.Proofs.YtbpfabicampdkaaGreatDoor
open Go.RowKit

theorem ownS_open {u c : Value} {x : SI} {w : World} (h : OwnS (.agg #[c, u]) x w) : OwnI u x.2 w := by
  obtain ⟨u', e, hu⟩ := h
  injection e with e
  simp at e
  obtain ⟨_, e2⟩ := e
  subst e2
  exact hu
theorem OwnS.below {w W : World} {v : Value} {x : SI} (h : OwnS v x w) (hb : Below w.heap.size w W) : OwnS v x W := by
  obtain ⟨u, rfl, o⟩ := h
  exact ⟨u, rfl, own_below o hb⟩
theorem one_szS : szS (ofZ 1) ≤ 1048576 := by have := ofZ_len 1; unfold szS szI; omega
theorem postQb_eq {q Q : QI × Bool} (e : q = Q) {w w' : World} {n : Ending} (h : PostQb q.1 q.2 w n w') : PostQb Q.1 Q.2 w n w' := by rw [← e]; exact h
theorem postn_eq {z z' : Int} (e : z = z') {w w' : World} {n : Ending} (h : Postn z w n w') : Postn z' w n w' := by rw [← e]; exact h
theorem newQ_ret {r : Nat} {u d c0 c1 c2 : Value} {x : QI} {w W : World} {B C : Nat} (hb : BoxAt r #[c0, c1, c2] 32 W) (o : W.ownsRow B 3 1 u x.1.2.length (intsV x.1.2)) (p : W.ownsRow C 3 1 d x.2.length (intsV x.2))
    (hap : ∀ g, u.ownBlock = some g → d.ownBlock ≠ some g) (hB : w.heap.size ≤ B) (hC : w.heap.size ≤ C) (hr : w.heap.size ≤ r) (hW : Below w.heap.size w W) :
    NewV (fun v => OwnQ v x) w (.returned (.agg #[.bool x.1.1, u, d])) (((W.setCell ⟨r, 0, none⟩ (.bool x.1.1)).setCell ⟨r, 1, none⟩ u).setCell ⟨r, 2, none⟩ d) := by
  obtain ⟨v, S, e, k1, k2, k3⟩ := newQb_ret (b := true) hb o p hap hB hC hr hW
  refine ⟨v, S, ?_, k1, k2, k3⟩
  injection e with e
  injection e with e
  simp at e
  rw [e]
theorem OwnQ.below {w W : World} {v : Value} {x : QI} (h : OwnQ v x w) (hb : Below w.heap.size w W) : OwnQ v x W := by
  obtain ⟨u, d, rfl, o, p, hap⟩ := h
  exact ⟨u, d, rfl, own_below o hb, own_below p hb, hap⟩
set_option maxHeartbeats 2000000 in
set_option maxRecDepth 100000 in
theorem specRatMul_any (vr : Value) (vs : Value) (r s : QI) (w : World) (hzr : szQ r ≤ 1048576) (hzs : szQ s ≤ 1048576) (hr : OwnQ vr r w) (hs : OwnQ vs s w) :
    Calls Tryz.prog 80 #[vr, vs] w (PostQb (mulQ r s).1 (mulQ r s).2 w) := by
  have Hr := Lib.hid hr
  obtain ⟨Ar, cr, Br, dr, rfl⟩ := ownQ_form hr
  have OQr := Lib.hid (show ∀ W, Below w.heap.size w W → OwnQ (.agg #[.bool r.1.1, .slice Ar r.1.2.length cr, .slice Br r.2.length dr]) r W from fun W hb => OwnQ.below Hr.out hb)
  have OUr := Lib.hid (show ∀ W, Below w.heap.size w W → OwnI (.slice Ar r.1.2.length cr) r.1.2 W from fun W hb => (ownQ_open (OQr.out W hb)).2.1)
  have ODr := Lib.hid (show ∀ W, Below w.heap.size w W → OwnI (.slice Br r.2.length dr) r.2 W from fun W hb => (ownQ_open (OQr.out W hb)).2.2.1)
  have OSr := Lib.hid (show ∀ W, Below w.heap.size w W → OwnS (.agg #[.bool r.1.1, .slice Ar r.1.2.length cr]) r.1 W from fun W hb => OwnS.mk (OUr.out W hb))
  clear hr
  have Hs := Lib.hid hs
  obtain ⟨As, cs, Bs, ds, rfl⟩ := ownQ_form hs
  have OQs := Lib.hid (show ∀ W, Below w.heap.size w W → OwnQ (.agg #[.bool s.1.1, .slice As s.1.2.length cs, .slice Bs s.2.length ds]) s W from fun W hb => OwnQ.below Hs.out hb)
  have OUs := Lib.hid (show ∀ W, Below w.heap.size w W → OwnI (.slice As s.1.2.length cs) s.1.2 W from fun W hb => (ownQ_open (OQs.out W hb)).2.1)
  have ODs := Lib.hid (show ∀ W, Below w.heap.size w W → OwnI (.slice Bs s.2.length ds) s.2 W from fun W hb => (ownQ_open (OQs.out W hb)).2.2.1)
  have OSs := Lib.hid (show ∀ W, Below w.heap.size w W → OwnS (.agg #[.bool s.1.1, .slice As s.1.2.length cs]) s.1 W from fun W hb => OwnS.mk (OUs.out W hb))
  clear hs
  have hlr := szQ_len hzr
  have hl1r := hlr.1
  have hl2r := hlr.2
  clear hlr
  have hls := szQ_len hzs
  have hl1s := hls.1
  have hl2s := hls.2
  clear hls
  have bb0 : Below w.heap.size w (((w.alloc (.cells #[.bool r.1.1, .slice Ar r.1.2.length cr, .slice Br r.2.length dr] 32)).alloc (.cells #[.bool s.1.1, .slice As s.1.2.length cs, .slice Bs s.2.length ds] 32)).alloc (.cells #[.bool false, .slice none 0 0, .slice none 0 0] 32)) := below_al (below_al (below_al (Below.refl _ _) _) _) _
  have kr := (box_new w #[.bool r.1.1, .slice Ar r.1.2.length cr, .slice Br r.2.length dr] 32).below (below_al (below_al (Below.refl _ _) (.cells #[.bool s.1.1, .slice As s.1.2.length cs, .slice Bs s.2.length ds] 32)) (.cells #[.bool false, .slice none 0 0, .slice none 0 0] 32))
  have ks := (box_new (w.alloc (.cells #[.bool r.1.1, .slice Ar r.1.2.length cr, .slice Br r.2.length dr] 32)) #[.bool s.1.1, .slice As s.1.2.length cs, .slice Bs s.2.length ds] 32).below (below_al (Below.refl _ _) (.cells #[.bool false, .slice none 0 0, .slice none 0 0] 32))
  rw [show (w.alloc (.cells #[.bool r.1.1, .slice Ar r.1.2.length cr, .slice Br r.2.length dr] 32)).heap.size = w.heap.size + 1 by simp] at ks
  have ko := (box_new ((w.alloc (.cells #[.bool r.1.1, .slice Ar r.1.2.length cr, .slice Br r.2.length dr] 32)).alloc (.cells #[.bool s.1.1, .slice As s.1.2.length cs, .slice Bs s.2.length ds] 32)) #[.bool false, .slice none 0 0, .slice none 0 0] 32)
  rw [show ((w.alloc (.cells #[.bool r.1.1, .slice Ar r.1.2.length cr, .slice Br r.2.length dr] 32)).alloc (.cells #[.bool s.1.1, .slice As s.1.2.length cs, .slice Bs s.2.length ds] 32)).heap.size = w.heap.size + 1 + 1 by simp] at ko
  go_enter Tryz.func80, Tryz.ntmps80
  have kr_c0 := kr.here.cell 0 _ rfl
  have kr_c1 := kr.here.cell 1 _ rfl
  have kr_c2 := kr.here.cell 2 _ rfl
  go_wp2_with fail
  clear kr_c0 kr_c1 kr_c2
  refine (specRatOk_any _ r _ hzr (OQr.out _ bb0)).mono ?_
  rintro e w1 ⟨rfl, b1⟩
  have bb1 := Below.next bb0 b1
  replace kr := kr.below b1
  replace ks := ks.below b1
  replace ko := ko.below b1
  by_cases okr : okQ r = true
  · rw [okr]
    have HOr := Lib.hid okr
    clear okr
    have ks_c0 := ks.here.cell 0 _ rfl
    have ks_c1 := ks.here.cell 1 _ rfl
    have ks_c2 := ks.here.cell 2 _ rfl
    go_wp2_with fail
    clear ks_c0 ks_c1 ks_c2
    refine (specRatOk_any _ s _ hzs (OQs.out _ bb1)).mono ?_
    rintro e w2 ⟨rfl, b2⟩
    have bb2 := Below.next bb1 b2
    replace kr := kr.below b2
    replace ks := ks.below b2
    replace ko := ko.below b2
    by_cases oks : okQ s = true
    · rw [oks]
      have HOs := Lib.hid oks
      clear oks
      have Pr := parts_of HOr.out
      have Ps := parts_of HOs.out
      have HPr := Lib.hid Pr
      have HPs := Lib.hid Ps
      have hnr := Pr.n50
      have hns := Ps.n50
      have hdr := Pr.d50
      have hds := Ps.d50
      have z0 := bb2.size
      have hko := ko.lt (w.heap.size + 1 + 1) (by simp)
      have H1 := Lib.hid (show (limbs (nval (r.1.2) * nval (s.1.2)).toNat).length ≤ 50 by rw [mul_toNat (okS_parts HPr.out.okn).1 (okS_parts HPs.out.okn).1]; exact Nat.le_trans (prod_len HPr.out.nlt HPs.out.nlt) (by decide))
      have H2 := Lib.hid (show (limbs (nval (r.2) * nval (s.2)).toNat).length ≤ 50 by rw [mul_toNat HPr.out.okd HPs.out.okd]; exact Nat.le_trans (prod_len HPr.out.dlt HPs.out.dlt) (by decide))
      have HV := Lib.hid (show mulQ r s = lowQ (!(r.1.1 == s.1.1)) (nval (r.1.2) * nval (s.1.2)).toNat (nval (r.2) * nval (s.2)).toNat by unfold mulQ; rw [if_pos ⟨HOr.out, HOs.out⟩, mul_toNat (okS_parts HPr.out.okn).1 (okS_parts HPs.out.okn).1, mul_toNat HPr.out.okd HPs.out.okd]; rfl)
      clear Pr Ps
      have kr_c0 := kr.here.cell 0 _ rfl
      have kr_c1 := kr.here.cell 1 _ rfl
      have kr_c2 := kr.here.cell 2 _ rfl
      have ks_c0 := ks.here.cell 0 _ rfl
      have ks_c1 := ks.here.cell 1 _ rfl
      have ks_c2 := ks.here.cell 2 _ rfl
      go_wp2_with fail
      have HC0 := Lib.hid (show Chg [w.heap.size + 1 + 1] w2 w2.drew from (Chg.refl _ _).drew1)
      have HCr := Lib.hid (show Chg [w.heap.size + 1 + 1] w2 w2 from Chg.refl _ _)
      have KL := Lib.hid (show ∀ W, Chg [w.heap.size + 1 + 1] w2 W → W.cell? ⟨w.heap.size, 0, none⟩ = some (.bool r.1.1) ∧ W.cell? ⟨w.heap.size, 1, none⟩ = some (.slice Ar r.1.2.length cr) ∧ W.cell? ⟨w.heap.size, 2, none⟩ = some (.slice Br r.2.length dr) ∧ W.cell? ⟨w.heap.size + 1, 0, none⟩ = some (.bool s.1.1) ∧ W.cell? ⟨w.heap.size + 1, 1, none⟩ = some (.slice As s.1.2.length cs) ∧ W.cell? ⟨w.heap.size + 1, 2, none⟩ = some (.slice Bs s.2.length ds) ∧ Hid (Chg [w.heap.size + 1 + 1] w2 W) from fun W hc => ⟨(kr.chg hc (fun i hi hm => by simp at hi hm; omega)).here.cell 0 _ rfl, (kr.chg hc (fun i hi hm => by simp at hi hm; omega)).here.cell 1 _ rfl, (kr.chg hc (fun i hi hm => by simp at hi hm; omega)).here.cell 2 _ rfl, (ks.chg hc (fun i hi hm => by simp at hi hm; omega)).here.cell 0 _ rfl, (ks.chg hc (fun i hi hm => by simp at hi hm; omega)).here.cell 1 _ rfl, (ks.chg hc (fun i hi hm => by simp at hi hm; omega)).here.cell 2 _ rfl, Lib.hid hc⟩)
      have BBF := Lib.hid (show ∀ W, Chg [w.heap.size + 1 + 1] w2 W → Below w.heap.size w W from fun W hc => below_chg bb2 hc bb2.size (fun i hi => by simp at hi; omega))
      clear kr_c0 kr_c1 kr_c2 ks_c0 ks_c1 ks_c2
      go_region_held3 (fun W => W.cell? ⟨w.heap.size, 0, none⟩ = some (.bool r.1.1) ∧ W.cell? ⟨w.heap.size, 1, none⟩ = some (.slice Ar r.1.2.length cr) ∧ W.cell? ⟨w.heap.size, 2, none⟩ = some (.slice Br r.2.length dr) ∧ W.cell? ⟨w.heap.size + 1, 0, none⟩ = some (.bool s.1.1) ∧ W.cell? ⟨w.heap.size + 1, 1, none⟩ = some (.slice As s.1.2.length cs) ∧ W.cell? ⟨w.heap.size + 1, 2, none⟩ = some (.slice Bs s.2.length ds) ∧ Hid (Chg [w.heap.size + 1 + 1] w2 W))
        ((refine KL.out _ ?_; (first | exact HC5.out | exact HC4.out | exact HC3.out | exact HCr.out | exact HC0.out | exact HC5.out.drew1 | exact HC4.out.drew1 | exact HC3.out.drew1 | exact HCr.out.drew1 | exact HC0.out.drew1 | exact HC5.out.trans (Chg.of_below (below_al (Below.refl _ _) _)) | exact HC4.out.trans (Chg.of_below (below_al (Below.refl _ _) _)) | exact HC3.out.trans (Chg.of_below (below_al (Below.refl _ _) _)) | exact HCr.out.trans (Chg.of_below (below_al (Below.refl _ _) _)) | exact HC0.out.trans (Chg.of_below (below_al (Below.refl _ _) _)) | exact (Chg.setCell HC5.out (by simp) _) | exact (Chg.setCell (Chg.setCell HC5.out (by simp) _) (by simp) _) | exact (Chg.setCell (Chg.setCell (Chg.setCell HC5.out (by simp) _) (by simp) _) (by simp) _) | fail)))
        (first
          | (go_at_call 141; (have hBB := (‹_ ∧ _ ∧ _ ∧ _ ∧ _ ∧ _ ∧ Hid (Chg [w.heap.size + 1 + 1] w2 _)›).2.2.2.2.2.2); (with_reducible refine (specMulV_any _ _ (r.1.2) (s.1.2) 0 _ 0 _ _ (by omega) (by omega) (Nat.le_refl _) (Nat.le_refl _) (natOk_parts (okS_parts HPr.out.okn).1).1 (natOk_parts (okS_parts HPs.out.okn).1).1 (OUr.out _ (BBF.out _ hBB.out)).row (OUs.out _ (BBF.out _ hBB.out)).row).mono ?_); rintro e w3 ⟨ua, rfl, oa_, b3⟩; have HC3 := Lib.hid (hBB.out.trans (Chg.of_below b3)); (have ko_3 := At.below (by first | exact ko | exact At.below ko (below_al (Below.refl _ _) _) | exact At.below (At.below ko (below_al (Below.refl _ _) _)) (below_al (Below.refl _ _) _) | exact At.move ko (fun _ _ => rfl) (Nat.le_refl _)) b3); have oa := own_at' oa_; have HBZ3 := Lib.hid hBB.out.size; clear hBB)
          | (go_at_call 141; (have hBB := (‹_ ∧ _ ∧ _ ∧ _ ∧ _ ∧ _ ∧ Hid (Chg [w.heap.size + 1 + 1] w2 _)›).2.2.2.2.2.2); (with_reducible refine (specMulV_any _ _ (r.2) (s.2) 0 _ 0 _ _ (by omega) (by omega) (Nat.le_refl _) (Nat.le_refl _) (natOk_parts HPr.out.okd).1 (natOk_parts HPs.out.okd).1 (ODr.out _ (BBF.out _ hBB.out)).row (ODs.out _ (BBF.out _ hBB.out)).row).mono ?_); rintro e w4 ⟨ub, rfl, ob_, b4⟩; have HC4 := Lib.hid (hBB.out.trans (Chg.of_below b4)); (have ko_4 := At.below (by first | exact ko_3 | exact At.below ko_3 (below_al (Below.refl _ _) _) | exact At.below (At.below ko_3 (below_al (Below.refl _ _) _)) (below_al (Below.refl _ _) _) | exact At.move ko_3 (fun _ _ => rfl) (Nat.le_refl _)) b4); (have oa_4 := At.below (by first | exact oa | exact At.below oa (below_al (Below.refl _ _) _) | exact At.below (At.below oa (below_al (Below.refl _ _) _)) (below_al (Below.refl _ _) _) | exact At.move oa (fun _ _ => rfl) (Nat.le_refl _)) b4); have ob := own_at' ob_; have HBZ4 := Lib.hid hBB.out.size; clear hBB)
          | (go_at_call 140; (have hBB := (‹_ ∧ _ ∧ _ ∧ _ ∧ _ ∧ _ ∧ Hid (Chg [w.heap.size + 1 + 1] w2 _)›).2.2.2.2.2.2); (with_reducible refine (l05Low_any _ _ _ ((nval (r.1.2) * nval (s.1.2)).toNat) ((nval (r.2) * nval (s.2)).toNat) _ H1.out H2.out (At.here (by first | exact oa_4 | exact At.below oa_4 (below_al (Below.refl _ _) _) | exact At.below (At.below oa_4 (below_al (Below.refl _ _) _)) (below_al (Below.refl _ _) _) | exact At.move oa_4 (fun _ _ => rfl) (Nat.le_refl _))) (At.here (by first | exact ob | exact At.below ob (below_al (Below.refl _ _) _) | exact At.below (At.below ob (below_al (Below.refl _ _) _)) (below_al (Below.refl _ _) _) | exact At.move ob (fun _ _ => rfl) (Nat.le_refl _)))).mono ?_); rintro e w5 ⟨uf, Sf, rfl, of, lf, b5⟩; have HC5 := Lib.hid (hBB.out.trans (Chg.of_below b5)); (have ko_5 := At.below (by first | exact ko_4 | exact At.below ko_4 (below_al (Below.refl _ _) _) | exact At.below (At.below ko_4 (below_al (Below.refl _ _) _)) (below_al (Below.refl _ _) _) | exact At.move ko_4 (fun _ _ => rfl) (Nat.le_refl _)) b5); (have oa_5 := At.below (by first | exact oa_4 | exact At.below oa_4 (below_al (Below.refl _ _) _) | exact At.below (At.below oa_4 (below_al (Below.refl _ _) _)) (below_al (Below.refl _ _) _) | exact At.move oa_4 (fun _ _ => rfl) (Nat.le_refl _)) b5); (have ob_5 := At.below (by first | exact ob | exact At.below ob (below_al (Below.refl _ _) _) | exact At.below (At.below ob (below_al (Below.refl _ _) _)) (below_al (Below.refl _ _) _) | exact At.move ob (fun _ _ => rfl) (Nat.le_refl _)) b5); obtain ⟨Af, cf, Bf, df, rfl⟩ := ownQ_form of.here; have cz0 := ko_5.here.cell 0 _ rfl; have fz0 := Lib.frozen_of_heap ko_5.here 0; have cz1 := ko_5.here.cell 1 _ rfl; have fz1 := Lib.frozen_of_heap ko_5.here 1; have cz2 := ko_5.here.cell 2 _ rfl; have fz2 := Lib.frozen_of_heap ko_5.here 2; have HBZ5 := Lib.hid hBB.out.size; clear hBB))
      have bb5 := BBF.out _ HC5.out
      replace kr := kr.chg HC5.out (fun i hi hm => by simp at hi hm; omega)
      replace ks := ks.chg HC5.out (fun i hi hm => by simp at hi hm; omega)
      replace ko := ko_5
      have oa := oa_5
      have ob := ob_5
      have HW := Lib.hid (newQb_at (r := w.heap.size + 1 + 1) (b := (lowQ (!(r.1.1 == s.1.1)) ((nval (r.1.2) * nval (s.1.2)).toNat) ((nval (r.2) * nval (s.2)).toNat)).2) of lf (by have := HBZ5.out; omega) (by omega) bb5)
      clear of ko kr ks oa ob z0 hko
      go_wp2
      refine bodyPost_ret (v := .tuple #[.agg #[.bool _, .slice Af _ cf, .slice Bf _ df], .bool _]) (by simp [results, Tryz.results80, go_sem, cz0, cz1, cz2]; exact ⟨⟨rfl, rfl, rfl⟩, rfl⟩) rfl ?_
      rw [HV.out]
      exact HW.out
    · have oks' : okQ s = false := by simpa using oks
      have HV := Lib.hid (show mulQ r s = (zeroQ, false) by unfold mulQ; rw [if_neg (fun h => oks h.2)])
      rw [oks']
      clear oks oks'
      have ko_c0 := ko.here.cell 0 _ rfl
      have ko_c1 := ko.here.cell 1 _ rfl
      have ko_c2 := ko.here.cell 2 _ rfl
      have cz0 := ko.here.cell 0 _ rfl
      have fz0 := Lib.frozen_of_heap ko.here 0
      have cz1 := ko.here.cell 1 _ rfl
      have fz1 := Lib.frozen_of_heap ko.here 1
      have cz2 := ko.here.cell 2 _ rfl
      have fz2 := Lib.frozen_of_heap ko.here 2
      go_wp2
      refine bodyPost_ret (v := .tuple #[.agg #[.bool false, .slice none 0 0, .slice none 0 0], .bool false]) (by simp [results, Tryz.results80, go_sem, cz0, cz1, cz2]) rfl ?_
      rw [HV.out]
      first | exact newQb_zero _ bb2 | exact newQb_zero _ (below_set3 bb2 (by omega))
  · have okr' : okQ r = false := by simpa using okr
    have HV := Lib.hid (show mulQ r s = (zeroQ, false) by unfold mulQ; rw [if_neg (fun h => okr h.1)])
    rw [okr']
    clear okr okr'
    have ko_c0 := ko.here.cell 0 _ rfl
    have ko_c1 := ko.here.cell 1 _ rfl
    have ko_c2 := ko.here.cell 2 _ rfl
    have cz0 := ko.here.cell 0 _ rfl
    have fz0 := Lib.frozen_of_heap ko.here 0
    have cz1 := ko.here.cell 1 _ rfl
    have fz1 := Lib.frozen_of_heap ko.here 1
    have cz2 := ko.here.cell 2 _ rfl
    have fz2 := Lib.frozen_of_heap ko.here 2
    go_wp2
    refine bodyPost_ret (v := .tuple #[.agg #[.bool false, .slice none 0 0, .slice none 0 0], .bool false]) (by simp [results, Tryz.results80, go_sem, cz0, cz1, cz2]) rfl ?_
    rw [HV.out]
    first | exact newQb_zero _ bb1 | exact newQb_zero _ (below_set3 bb1 (by omega))
set_option maxHeartbeats 2000000 in
set_option maxRecDepth 100000 in
theorem specRatDiv_any (vr : Value) (vs : Value) (r s : QI) (w : World) (hzr : szQ r ≤ 1048576) (hzs : szQ s ≤ 1048576) (hr : OwnQ vr r w) (hs : OwnQ vs s w) :
    Calls Tryz.prog 138 #[vr, vs] w (PostQb (divQ r s).1 (divQ r s).2 w) := by
  have Hr := Lib.hid hr
  obtain ⟨Ar, cr, Br, dr, rfl⟩ := ownQ_form hr
  have OQr := Lib.hid (show ∀ W, Below w.heap.size w W → OwnQ (.agg #[.bool r.1.1, .slice Ar r.1.2.length cr, .slice Br r.2.length dr]) r W from fun W hb => OwnQ.below Hr.out hb)
  have OUr := Lib.hid (show ∀ W, Below w.heap.size w W → OwnI (.slice Ar r.1.2.length cr) r.1.2 W from fun W hb => (ownQ_open (OQr.out W hb)).2.1)
  have ODr := Lib.hid (show ∀ W, Below w.heap.size w W → OwnI (.slice Br r.2.length dr) r.2 W from fun W hb => (ownQ_open (OQr.out W hb)).2.2.1)
  have OSr := Lib.hid (show ∀ W, Below w.heap.size w W → OwnS (.agg #[.bool r.1.1, .slice Ar r.1.2.length cr]) r.1 W from fun W hb => OwnS.mk (OUr.out W hb))
  clear hr
  have Hs := Lib.hid hs
  obtain ⟨As, cs, Bs, ds, rfl⟩ := ownQ_form hs
  have OQs := Lib.hid (show ∀ W, Below w.heap.size w W → OwnQ (.agg #[.bool s.1.1, .slice As s.1.2.length cs, .slice Bs s.2.length ds]) s W from fun W hb => OwnQ.below Hs.out hb)
  have OUs := Lib.hid (show ∀ W, Below w.heap.size w W → OwnI (.slice As s.1.2.length cs) s.1.2 W from fun W hb => (ownQ_open (OQs.out W hb)).2.1)
  have ODs := Lib.hid (show ∀ W, Below w.heap.size w W → OwnI (.slice Bs s.2.length ds) s.2 W from fun W hb => (ownQ_open (OQs.out W hb)).2.2.1)
  have OSs := Lib.hid (show ∀ W, Below w.heap.size w W → OwnS (.agg #[.bool s.1.1, .slice As s.1.2.length cs]) s.1 W from fun W hb => OwnS.mk (OUs.out W hb))
  clear hs
  have hlr := szQ_len hzr
  have hl1r := hlr.1
  have hl2r := hlr.2
  clear hlr
  have hls := szQ_len hzs
  have hl1s := hls.1
  have hl2s := hls.2
  clear hls
  have bb0 : Below w.heap.size w (((w.alloc (.cells #[.bool r.1.1, .slice Ar r.1.2.length cr, .slice Br r.2.length dr] 32)).alloc (.cells #[.bool s.1.1, .slice As s.1.2.length cs, .slice Bs s.2.length ds] 32)).alloc (.cells #[.bool false, .slice none 0 0, .slice none 0 0] 32)) := below_al (below_al (below_al (Below.refl _ _) _) _) _
  have kr := (box_new w #[.bool r.1.1, .slice Ar r.1.2.length cr, .slice Br r.2.length dr] 32).below (below_al (below_al (Below.refl _ _) (.cells #[.bool s.1.1, .slice As s.1.2.length cs, .slice Bs s.2.length ds] 32)) (.cells #[.bool false, .slice none 0 0, .slice none 0 0] 32))
  have ks := (box_new (w.alloc (.cells #[.bool r.1.1, .slice Ar r.1.2.length cr, .slice Br r.2.length dr] 32)) #[.bool s.1.1, .slice As s.1.2.length cs, .slice Bs s.2.length ds] 32).below (below_al (Below.refl _ _) (.cells #[.bool false, .slice none 0 0, .slice none 0 0] 32))
  rw [show (w.alloc (.cells #[.bool r.1.1, .slice Ar r.1.2.length cr, .slice Br r.2.length dr] 32)).heap.size = w.heap.size + 1 by simp] at ks
  have ko := (box_new ((w.alloc (.cells #[.bool r.1.1, .slice Ar r.1.2.length cr, .slice Br r.2.length dr] 32)).alloc (.cells #[.bool s.1.1, .slice As s.1.2.length cs, .slice Bs s.2.length ds] 32)) #[.bool false, .slice none 0 0, .slice none 0 0] 32)
  rw [show ((w.alloc (.cells #[.bool r.1.1, .slice Ar r.1.2.length cr, .slice Br r.2.length dr] 32)).alloc (.cells #[.bool s.1.1, .slice As s.1.2.length cs, .slice Bs s.2.length ds] 32)).heap.size = w.heap.size + 1 + 1 by simp] at ko
  go_enter Tryz.func138, Tryz.ntmps138
  have kr_c0 := kr.here.cell 0 _ rfl
  have kr_c1 := kr.here.cell 1 _ rfl
  have kr_c2 := kr.here.cell 2 _ rfl
  go_wp2_with fail
  clear kr_c0 kr_c1 kr_c2
  refine (specRatOk_any _ r _ hzr (OQr.out _ bb0)).mono ?_
  rintro e w1 ⟨rfl, b1⟩
  have bb1 := Below.next bb0 b1
  replace kr := kr.below b1
  replace ks := ks.below b1
  replace ko := ko.below b1
  by_cases okr : okQ r = true
  · rw [okr]
    have HOr := Lib.hid okr
    clear okr
    have ks_c0 := ks.here.cell 0 _ rfl
    have ks_c1 := ks.here.cell 1 _ rfl
    have ks_c2 := ks.here.cell 2 _ rfl
    go_wp2_with fail
    clear ks_c0 ks_c1 ks_c2
    refine (specRatOk_any _ s _ hzs (OQs.out _ bb1)).mono ?_
    rintro e w2 ⟨rfl, b2⟩
    have bb2 := Below.next bb1 b2
    replace kr := kr.below b2
    replace ks := ks.below b2
    replace ko := ko.below b2
    by_cases oks : okQ s = true
    · rw [oks]
      have HOs := Lib.hid oks
      clear oks
      have Pr := parts_of HOr.out
      have Ps := parts_of HOs.out
      have HPr := Lib.hid Pr
      have HPs := Lib.hid Ps
      have hnr := Pr.n50
      have hns := Ps.n50
      have hdr := Pr.d50
      have hds := Ps.d50
      have z0 := bb2.size
      have hko := ko.lt (w.heap.size + 1 + 1) (by simp)
      have H1 := Lib.hid (show (limbs (nval (r.1.2) * nval (s.2)).toNat).length ≤ 50 by rw [mul_toNat (okS_parts HPr.out.okn).1 HPs.out.okd]; exact Nat.le_trans (prod_len HPr.out.nlt HPs.out.dlt) (by decide))
      have H2 := Lib.hid (show (limbs (nval (r.2) * nval (s.1.2)).toNat).length ≤ 50 by rw [mul_toNat HPr.out.okd (okS_parts HPs.out.okn).1]; exact Nat.le_trans (prod_len HPr.out.dlt HPs.out.nlt) (by decide))
      have HV := Lib.hid (show divQ r s = lowQ (!(r.1.1 == s.1.1)) (nval (r.1.2) * nval (s.2)).toNat (nval (r.2) * nval (s.1.2)).toNat by unfold divQ; rw [if_pos ⟨HOr.out, HOs.out⟩, mul_toNat (okS_parts HPr.out.okn).1 HPs.out.okd, mul_toNat HPr.out.okd (okS_parts HPs.out.okn).1]; rfl)
      clear Pr Ps
      have kr_c0 := kr.here.cell 0 _ rfl
      have kr_c1 := kr.here.cell 1 _ rfl
      have kr_c2 := kr.here.cell 2 _ rfl
      have ks_c0 := ks.here.cell 0 _ rfl
      have ks_c1 := ks.here.cell 1 _ rfl
      have ks_c2 := ks.here.cell 2 _ rfl
      go_wp2_with fail
      have HC0 := Lib.hid (show Chg [w.heap.size + 1 + 1] w2 w2.drew from (Chg.refl _ _).drew1)
      have HCr := Lib.hid (show Chg [w.heap.size + 1 + 1] w2 w2 from Chg.refl _ _)
      have KL := Lib.hid (show ∀ W, Chg [w.heap.size + 1 + 1] w2 W → W.cell? ⟨w.heap.size, 0, none⟩ = some (.bool r.1.1) ∧ W.cell? ⟨w.heap.size, 1, none⟩ = some (.slice Ar r.1.2.length cr) ∧ W.cell? ⟨w.heap.size, 2, none⟩ = some (.slice Br r.2.length dr) ∧ W.cell? ⟨w.heap.size + 1, 0, none⟩ = some (.bool s.1.1) ∧ W.cell? ⟨w.heap.size + 1, 1, none⟩ = some (.slice As s.1.2.length cs) ∧ W.cell? ⟨w.heap.size + 1, 2, none⟩ = some (.slice Bs s.2.length ds) ∧ Hid (Chg [w.heap.size + 1 + 1] w2 W) from fun W hc => ⟨(kr.chg hc (fun i hi hm => by simp at hi hm; omega)).here.cell 0 _ rfl, (kr.chg hc (fun i hi hm => by simp at hi hm; omega)).here.cell 1 _ rfl, (kr.chg hc (fun i hi hm => by simp at hi hm; omega)).here.cell 2 _ rfl, (ks.chg hc (fun i hi hm => by simp at hi hm; omega)).here.cell 0 _ rfl, (ks.chg hc (fun i hi hm => by simp at hi hm; omega)).here.cell 1 _ rfl, (ks.chg hc (fun i hi hm => by simp at hi hm; omega)).here.cell 2 _ rfl, Lib.hid hc⟩)
      have BBF := Lib.hid (show ∀ W, Chg [w.heap.size + 1 + 1] w2 W → Below w.heap.size w W from fun W hc => below_chg bb2 hc bb2.size (fun i hi => by simp at hi; omega))
      clear kr_c0 kr_c1 kr_c2 ks_c0 ks_c1 ks_c2
      go_region_held3 (fun W => W.cell? ⟨w.heap.size, 0, none⟩ = some (.bool r.1.1) ∧ W.cell? ⟨w.heap.size, 1, none⟩ = some (.slice Ar r.1.2.length cr) ∧ W.cell? ⟨w.heap.size, 2, none⟩ = some (.slice Br r.2.length dr) ∧ W.cell? ⟨w.heap.size + 1, 0, none⟩ = some (.bool s.1.1) ∧ W.cell? ⟨w.heap.size + 1, 1, none⟩ = some (.slice As s.1.2.length cs) ∧ W.cell? ⟨w.heap.size + 1, 2, none⟩ = some (.slice Bs s.2.length ds) ∧ Hid (Chg [w.heap.size + 1 + 1] w2 W))
        ((refine KL.out _ ?_; (first | exact HC5.out | exact HC4.out | exact HC3.out | exact HCr.out | exact HC0.out | exact HC5.out.drew1 | exact HC4.out.drew1 | exact HC3.out.drew1 | exact HCr.out.drew1 | exact HC0.out.drew1 | exact HC5.out.trans (Chg.of_below (below_al (Below.refl _ _) _)) | exact HC4.out.trans (Chg.of_below (below_al (Below.refl _ _) _)) | exact HC3.out.trans (Chg.of_below (below_al (Below.refl _ _) _)) | exact HCr.out.trans (Chg.of_below (below_al (Below.refl _ _) _)) | exact HC0.out.trans (Chg.of_below (below_al (Below.refl _ _) _)) | exact (Chg.setCell HC5.out (by simp) _) | exact (Chg.setCell (Chg.setCell HC5.out (by simp) _) (by simp) _) | exact (Chg.setCell (Chg.setCell (Chg.setCell HC5.out (by simp) _) (by simp) _) (by simp) _) | fail)))
        (first
          | (go_at_call 141; (have hBB := (‹_ ∧ _ ∧ _ ∧ _ ∧ _ ∧ _ ∧ Hid (Chg [w.heap.size + 1 + 1] w2 _)›).2.2.2.2.2.2); (with_reducible refine (specMulV_any _ _ (r.1.2) (s.2) 0 _ 0 _ _ (by omega) (by omega) (Nat.le_refl _) (Nat.le_refl _) (natOk_parts (okS_parts HPr.out.okn).1).1 (natOk_parts HPs.out.okd).1 (OUr.out _ (BBF.out _ hBB.out)).row (ODs.out _ (BBF.out _ hBB.out)).row).mono ?_); rintro e w3 ⟨ua, rfl, oa_, b3⟩; have HC3 := Lib.hid (hBB.out.trans (Chg.of_below b3)); (have ko_3 := At.below (by first | exact ko | exact At.below ko (below_al (Below.refl _ _) _) | exact At.below (At.below ko (below_al (Below.refl _ _) _)) (below_al (Below.refl _ _) _) | exact At.move ko (fun _ _ => rfl) (Nat.le_refl _)) b3); have oa := own_at' oa_; have HBZ3 := Lib.hid hBB.out.size; clear hBB)
          | (go_at_call 141; (have hBB := (‹_ ∧ _ ∧ _ ∧ _ ∧ _ ∧ _ ∧ Hid (Chg [w.heap.size + 1 + 1] w2 _)›).2.2.2.2.2.2); (with_reducible refine (specMulV_any _ _ (r.2) (s.1.2) 0 _ 0 _ _ (by omega) (by omega) (Nat.le_refl _) (Nat.le_refl _) (natOk_parts HPr.out.okd).1 (natOk_parts (okS_parts HPs.out.okn).1).1 (ODr.out _ (BBF.out _ hBB.out)).row (OUs.out _ (BBF.out _ hBB.out)).row).mono ?_); rintro e w4 ⟨ub, rfl, ob_, b4⟩; have HC4 := Lib.hid (hBB.out.trans (Chg.of_below b4)); (have ko_4 := At.below (by first | exact ko_3 | exact At.below ko_3 (below_al (Below.refl _ _) _) | exact At.below (At.below ko_3 (below_al (Below.refl _ _) _)) (below_al (Below.refl _ _) _) | exact At.move ko_3 (fun _ _ => rfl) (Nat.le_refl _)) b4); (have oa_4 := At.below (by first | exact oa | exact At.below oa (below_al (Below.refl _ _) _) | exact At.below (At.below oa (below_al (Below.refl _ _) _)) (below_al (Below.refl _ _) _) | exact At.move oa (fun _ _ => rfl) (Nat.le_refl _)) b4); have ob := own_at' ob_; have HBZ4 := Lib.hid hBB.out.size; clear hBB)
          | (go_at_call 140; (have hBB := (‹_ ∧ _ ∧ _ ∧ _ ∧ _ ∧ _ ∧ Hid (Chg [w.heap.size + 1 + 1] w2 _)›).2.2.2.2.2.2); (with_reducible refine (l05Low_any _ _ _ ((nval (r.1.2) * nval (s.2)).toNat) ((nval (r.2) * nval (s.1.2)).toNat) _ H1.out H2.out (At.here (by first | exact oa_4 | exact At.below oa_4 (below_al (Below.refl _ _) _) | exact At.below (At.below oa_4 (below_al (Below.refl _ _) _)) (below_al (Below.refl _ _) _) | exact At.move oa_4 (fun _ _ => rfl) (Nat.le_refl _))) (At.here (by first | exact ob | exact At.below ob (below_al (Below.refl _ _) _) | exact At.below (At.below ob (below_al (Below.refl _ _) _)) (below_al (Below.refl _ _) _) | exact At.move ob (fun _ _ => rfl) (Nat.le_refl _)))).mono ?_); rintro e w5 ⟨uf, Sf, rfl, of, lf, b5⟩; have HC5 := Lib.hid (hBB.out.trans (Chg.of_below b5)); (have ko_5 := At.below (by first | exact ko_4 | exact At.below ko_4 (below_al (Below.refl _ _) _) | exact At.below (At.below ko_4 (below_al (Below.refl _ _) _)) (below_al (Below.refl _ _) _) | exact At.move ko_4 (fun _ _ => rfl) (Nat.le_refl _)) b5); (have oa_5 := At.below (by first | exact oa_4 | exact At.below oa_4 (below_al (Below.refl _ _) _) | exact At.below (At.below oa_4 (below_al (Below.refl _ _) _)) (below_al (Below.refl _ _) _) | exact At.move oa_4 (fun _ _ => rfl) (Nat.le_refl _)) b5); (have ob_5 := At.below (by first | exact ob | exact At.below ob (below_al (Below.refl _ _) _) | exact At.below (At.below ob (below_al (Below.refl _ _) _)) (below_al (Below.refl _ _) _) | exact At.move ob (fun _ _ => rfl) (Nat.le_refl _)) b5); obtain ⟨Af, cf, Bf, df, rfl⟩ := ownQ_form of.here; have cz0 := ko_5.here.cell 0 _ rfl; have fz0 := Lib.frozen_of_heap ko_5.here 0; have cz1 := ko_5.here.cell 1 _ rfl; have fz1 := Lib.frozen_of_heap ko_5.here 1; have cz2 := ko_5.here.cell 2 _ rfl; have fz2 := Lib.frozen_of_heap ko_5.here 2; have HBZ5 := Lib.hid hBB.out.size; clear hBB))
      have bb5 := BBF.out _ HC5.out
      replace kr := kr.chg HC5.out (fun i hi hm => by simp at hi hm; omega)
      replace ks := ks.chg HC5.out (fun i hi hm => by simp at hi hm; omega)
      replace ko := ko_5
      have oa := oa_5
      have ob := ob_5
      have HW := Lib.hid (newQb_at (r := w.heap.size + 1 + 1) (b := (lowQ (!(r.1.1 == s.1.1)) ((nval (r.1.2) * nval (s.2)).toNat) ((nval (r.2) * nval (s.1.2)).toNat)).2) of lf (by have := HBZ5.out; omega) (by omega) bb5)
      clear of ko kr ks oa ob z0 hko
      go_wp2
      refine bodyPost_ret (v := .tuple #[.agg #[.bool _, .slice Af _ cf, .slice Bf _ df], .bool _]) (by simp [results, Tryz.results138, go_sem, cz0, cz1, cz2]; exact ⟨⟨rfl, rfl, rfl⟩, rfl⟩) rfl ?_
      rw [HV.out]
      exact HW.out
    · have oks' : okQ s = false := by simpa using oks
      have HV := Lib.hid (show divQ r s = (zeroQ, false) by unfold divQ; rw [if_neg (fun h => oks h.2)])
      rw [oks']
      clear oks oks'
      have ko_c0 := ko.here.cell 0 _ rfl
      have ko_c1 := ko.here.cell 1 _ rfl
      have ko_c2 := ko.here.cell 2 _ rfl
      have cz0 := ko.here.cell 0 _ rfl
      have fz0 := Lib.frozen_of_heap ko.here 0
      have cz1 := ko.here.cell 1 _ rfl
      have fz1 := Lib.frozen_of_heap ko.here 1
      have cz2 := ko.here.cell 2 _ rfl
      have fz2 := Lib.frozen_of_heap ko.here 2
      go_wp2
      refine bodyPost_ret (v := .tuple #[.agg #[.bool false, .slice none 0 0, .slice none 0 0], .bool false]) (by simp [results, Tryz.results138, go_sem, cz0, cz1, cz2]) rfl ?_
      rw [HV.out]
      first | exact newQb_zero _ bb2 | exact newQb_zero _ (below_set3 bb2 (by omega))
  · have okr' : okQ r = false := by simpa using okr
    have HV := Lib.hid (show divQ r s = (zeroQ, false) by unfold divQ; rw [if_neg (fun h => okr h.1)])
    rw [okr']
    clear okr okr'
    have ko_c0 := ko.here.cell 0 _ rfl
    have ko_c1 := ko.here.cell 1 _ rfl
    have ko_c2 := ko.here.cell 2 _ rfl
    have cz0 := ko.here.cell 0 _ rfl
    have fz0 := Lib.frozen_of_heap ko.here 0
    have cz1 := ko.here.cell 1 _ rfl
    have fz1 := Lib.frozen_of_heap ko.here 1
    have cz2 := ko.here.cell 2 _ rfl
    have fz2 := Lib.frozen_of_heap ko.here 2
    go_wp2
    refine bodyPost_ret (v := .tuple #[.agg #[.bool false, .slice none 0 0, .slice none 0 0], .bool false]) (by simp [results, Tryz.results138, go_sem, cz0, cz1, cz2]) rfl ?_
    rw [HV.out]
    first | exact newQb_zero _ bb1 | exact newQb_zero _ (below_set3 bb1 (by omega))
end Go.Proofs.YtbpfabicampdkaaGreatDoor

namespace Go.Proofs.YtbpfabicampdkaaGreatDoor
open Go.RowKit

theorem cmpS_zero {b : SI} (h : okS b = true) : (cmpS b zeroS = 0) ↔ nval b.2 = 0 := by
  have n := nval_ok (okS_parts h).1
  unfold cmpS
  rw [if_pos ⟨h, zeroS_ok⟩, zeroS_val]
  have e : valS b = 0 ↔ nval b.2 = 0 := by
    unfold valS
    split <;> omega
  rw [← e]
  unfold cmpI
  split
  · omega
  · split <;> omega
theorem makeQ_none {a b : SI} (h : ¬ (okS a = true ∧ cmpS b zeroS ≠ 0)) : makeQ a b = (zeroQ, false) := by
  unfold makeQ
  split
  · rename_i hk
    have hz : nval b.2 = 0 := (cmpS_zero hk.2).1 (Classical.byContradiction fun e => h ⟨hk.1, e⟩)
    unfold lowQ
    rw [if_neg (fun k => k.1 (by rw [hz]; rfl))]
  · rfl
theorem cmpS_ok {b : SI} (h : cmpS b zeroS ≠ 0) : okS b = true := by
  unfold cmpS at h
  rcases Classical.em (okS b = true ∧ okS zeroS = true) with k | k
  · exact k.1
  · rw [if_neg k] at h
    exact absurd rfl h
/-- the parts that RatMake divides out -/
theorem makeQ_parts {a b : SI} (ha : okS a = true) (hb : cmpS b zeroS ≠ 0) : ∃ X Y : Nat,
    gcdN a.2 b.2 = limbs (Nat.gcd (nval a.2).toNat (nval b.2).toNat) ∧ (divN a.2 (gcdN a.2 b.2)).1 = limbs X ∧ (divN b.2 (gcdN a.2 b.2)).1 = limbs Y ∧ (limbs X).length ≤ 50 ∧ (limbs Y).length ≤ 50 ∧ 0 < (limbs Y).length ∧
    makeQ a b = if (limbs X).length ≤ 18 ∧ (limbs Y).length ≤ 18 then ((mkS (!(a.1 == b.1)) (limbs X), limbs Y), true) else (zeroQ, false) := by
  have hkb := cmpS_ok hb
  have pa := okS_parts ha
  have pb := okS_parts hkb
  have na := nval_ok pa.1
  have nb := nval_ok pb.1
  have hz : nval b.2 ≠ 0 := fun e => hb ((cmpS_zero hkb).2 e)
  have hg := gcdN_small a.2 b.2
  have eg : gcdN a.2 b.2 = limbs (Nat.gcd (nval a.2).toNat (nval b.2).toNat) := by unfold gcdN; rw [if_pos ⟨pa.1, pb.1⟩]
  have g0 := Nat.gcd_pos_of_pos_right (nval a.2).toNat (show 0 < (nval b.2).toNat by omega)
  have okg : natOkB (gcdN a.2 b.2) = true := by rw [eg] at hg ⊢; exact limbs_okL _ hg
  have lg : 0 < (gcdN a.2 b.2).length := by
    rw [eg]
    rcases Nat.eq_zero_or_pos (limbs (Nat.gcd (nval a.2).toNat (nval b.2).toNat)).length with h | h
    · have := (limbs_zero_iff _).1 h
      omega
    · exact h
  have dv : ∀ c : List Int, natOkB c = true → (divN c (gcdN a.2 b.2)).1 = limbs ((nval c).toNat / Nat.gcd (nval a.2).toNat (nval b.2).toNat) ∧ (limbs ((nval c).toNat / Nat.gcd (nval a.2).toNat (nval b.2).toNat)).length ≤ 50 := by
    intro c hc
    have nc := nval_ok hc
    unfold divN
    rw [if_pos ⟨hc, okg, lg⟩, eg, limbs_val]
    have e : (nval c / ((Nat.gcd (nval a.2).toNat (nval b.2).toNat : Nat) : Int)).toNat = (nval c).toNat / Nat.gcd (nval a.2).toNat (nval b.2).toNat := by
      rw [← div_toNat]
      congr 2
      omega
    simp only
    rw [e]
    refine ⟨rfl, ?_⟩
    have hm := limbs_mono (m := (((nval c).toNat / Nat.gcd (nval a.2).toNat (nval b.2).toNat : Nat) : Int)) (n := nval c) (by omega) (by have := Nat.div_le_self (nval c).toNat (Nat.gcd (nval a.2).toNat (nval b.2).toNat); omega)
    rw [Int.toNat_natCast, ← natOk_limbs hc] at hm
    have := (natOk_parts hc).2.1
    omega
  have hy : 0 < (limbs ((nval b.2).toNat / Nat.gcd (nval a.2).toNat (nval b.2).toNat)).length := by
    have h1 := Nat.div_pos (Nat.le_of_dvd (show 0 < (nval b.2).toNat by omega) (Nat.gcd_dvd_right (nval a.2).toNat (nval b.2).toNat)) g0
    rcases Nat.eq_zero_or_pos (limbs ((nval b.2).toNat / Nat.gcd (nval a.2).toNat (nval b.2).toNat)).length with h | h
    · have := (limbs_zero_iff _).1 h
      omega
    · exact h
  refine ⟨(nval a.2).toNat / Nat.gcd (nval a.2).toNat (nval b.2).toNat, (nval b.2).toNat / Nat.gcd (nval a.2).toNat (nval b.2).toNat, eg, (dv _ pa.1).1, (dv _ pb.1).1, (dv _ pa.1).2, (dv _ pb.1).2, hy, ?_⟩
  unfold makeQ
  rw [if_pos ⟨ha, hkb⟩]
  unfold lowQ
  have h0 : (nval b.2).toNat ≠ 0 := by omega
  have e : (a.1 != b.1) = !(a.1 == b.1) := rfl
  simp only [h0, ne_eq, not_false_eq_true, true_and, e]

theorem mulS_cross {x : SI} {d : List Int} {n : Nat} (hx : okS x = true) (hd : natOkB d = true) (hn : n = (nval d).toNat) : mulS x (false, d) = ofZ (valS x * n) ∧ okS (false, d) = true := by
  have h0 := nval_ok hd
  have hk : okS (false, d) = true := by unfold okS; rw [hd]; rfl
  refine ⟨?_, hk⟩
  unfold mulS
  rw [if_pos ⟨hx, hk⟩]
  have : valS (false, d) = n := by unfold valS; simp; omega
  rw [this]
theorem cross_abs {q : QI} {n : Nat} (h : Parts q) (hn : (n : Int) < bp 18) : ((numQ q * n).natAbs : Int) < bp 36 := by
  rw [h.top]
  have := prod_lt h.nlt hn
  split
  · rw [Int.neg_mul, Int.natAbs_neg, ← Int.natCast_mul]; omega
  · rw [← Int.natCast_mul]; omega
theorem ofZ_short {z : Int} {k : Nat} (h : (z.natAbs : Int) < bp k) (hk : k ≤ 50) : okS (ofZ z) = true ∧ valS (ofZ z) = z ∧ ofZ z = (decide (z < 0), limbs z.natAbs) := by
  have hl := limbs_length_le z.natAbs k h
  refine ⟨ofZ_ok z, ofZ_val (by omega), ?_⟩
  unfold ofZ
  rw [if_pos (by omega)]
/-- what RatMake makes of integers -/
theorem makeQ_ofZ {z : Int} {k m : Nat} {n : Bool} {d : List Int} (h : (z.natAbs : Int) < bp k) (hk : k ≤ 50) (hd : d = limbs m) (_ : (limbs m).length ≤ 50) (hn : okS (n, d) = true) : makeQ (ofZ z) (n, d) = lowQ (decide (z < 0) != n) z.natAbs m := by
  obtain ⟨h1, _, h3⟩ := ofZ_short h hk
  unfold makeQ
  rw [if_pos ⟨h1, hn⟩, h3]
  simp only
  rw [limbs_val, hd, limbs_val, Int.toNat_natCast, Int.toNat_natCast]
theorem nil_ok {d : List Int} (hd : natOkB d = true) : okS (false, d) = true := by unfold okS; rw [hd]; rfl
theorem numQ_val (q : QI) : valS q.1 = numQ q := rfl
def leftS (r s : QI) : SI := mulS r.1 (false, s.2)
def denS (r s : QI) : SI := (false, mulN r.2 s.2)
def topS (r s : QI) : SI := mulS r.1 s.1
theorem leftS_eq {r s : QI} (hr : Parts r) (hs : Parts s) : leftS r s = ofZ (numQ r * denQ s) ∧ okS (leftS r s) = true ∧ valS (leftS r s) = numQ r * denQ s := by
  have h := (mulS_cross hr.okn hs.okd (show denQ s = _ from rfl)).1
  rw [numQ_val] at h
  have hz := ofZ_short (cross_abs hr hs.dlt) (by decide)
  unfold leftS
  rw [h]
  exact ⟨rfl, hz.1, hz.2.1⟩
theorem denS_eq {r s : QI} (hr : Parts r) (hs : Parts s) : denS r s = (false, limbs (denQ r * denQ s)) ∧ okS (denS r s) = true ∧ (limbs (denQ r * denQ s)).length ≤ 50 := by
  have hl := Nat.le_trans (prod_len hr.dlt hs.dlt) (show 36 ≤ 50 by decide)
  have e : mulN r.2 s.2 = limbs (denQ r * denQ s) := by
    unfold mulN natRes capL
    rw [if_pos ⟨hr.okd, hs.okd⟩, mul_toNat hr.okd hs.okd]
    show (if 50 < (limbs (denQ r * denQ s)).length then [] else limbs (denQ r * denQ s)) = _
    rw [if_neg (by omega)]
  unfold denS
  rw [e]
  exact ⟨rfl, nil_ok (limbs_okL _ hl), hl⟩
theorem topS_eq {r s : QI} (hr : Parts r) (hs : Parts s) : topS r s = ofZ (numQ r * numQ s) ∧ ((numQ r * numQ s).natAbs : Int) < bp 36 ∧ (numQ r * numQ s).natAbs = topN r * topN s := by
  have e : (numQ r * numQ s).natAbs = topN r * topN s := by
    rw [Int.natAbs_mul, hr.top, hs.top]
    congr 1 <;> split <;> omega
  unfold topS mulS
  rw [if_pos ⟨hr.okn, hs.okn⟩]
  exact ⟨rfl, by rw [e]; exact prod_lt hr.nlt hs.nlt, e⟩
theorem sum_abs {x y : Int} (hx : (x.natAbs : Int) < bp 36) (hy : (y.natAbs : Int) < bp 36) : ((x + y).natAbs : Int) < bp 37 ∧ ((x - y).natAbs : Int) < bp 37 := by
  have := bp37
  omega
theorem addQ_make {r s : QI} (hr : Parts r) (hs : Parts s) (okr : okQ r = true) (oks : okQ s = true) : makeQ (addS (leftS r s) (leftS s r)) (denS r s) = addQ r s := by
  have l := leftS_eq hr hs
  have m := leftS_eq hs hr
  have d := denS_eq hr hs
  have e : addS (leftS r s) (leftS s r) = ofZ (numQ r * denQ s + numQ s * denQ r) := by
    unfold addS
    rw [if_pos ⟨l.2.1, m.2.1⟩, l.2.2, m.2.2]
  rw [e, d.1, makeQ_ofZ (sum_abs (cross_abs hr hs.dlt) (cross_abs hs hr.dlt)).1 (by decide) rfl d.2.2 (by rw [← d.1]; exact d.2.1)]
  unfold addQ
  rw [if_pos ⟨okr, oks⟩]
  simp
theorem subS_ok (x y : SI) : okS (subS x y) = true := by unfold subS; split; exact ofZ_ok _; exact zeroS_ok
theorem numQ_neg {s : QI} (oks : okQ s = true) : (negQ s).2 = true ∧ okQ (negQ s).1 = true ∧ numQ (negQ s).1 = -(numQ s) ∧ denQ (negQ s).1 = denQ s := by
  have h := parts_of oks
  have e : negQ s = ((negS s.1, s.2), true) := by unfold negQ; rw [if_pos oks]
  rw [e]
  have hv := negS_val h.okn
  have hp := okQ_parts oks
  have habs : nval (negS s.1).2 = nval s.1.2 ∧ (negS s.1).2.length = s.1.2.length := by
    have e2 : (negS s.1).2 = limbs (valS s.1).natAbs := by
      unfold negS
      rw [if_pos h.okn]
      have := ofZ_short (z := -(valS s.1)) (k := 18) (by rw [Int.natAbs_neg, valS_abs _ (okS_parts h.okn).1]; exact h.nlt) (by decide)
      rw [this.2.2, Int.natAbs_neg]
    have e3 : s.1.2 = limbs (valS s.1).natAbs := by
      rw [valS_abs _ (okS_parts h.okn).1]
      exact natOk_limbs (okS_parts h.okn).1
    rw [e2, ← e3]
    exact ⟨rfl, rfl⟩
  refine ⟨rfl, ?_, hv, rfl⟩
  unfold okQ
  rw [negS_ok, h.okd]
  simp only [Bool.true_and, decide_eq_true_eq]
  rw [habs.1, habs.2]
  exact ⟨hp.2.2.1, hp.2.2.2.1, hp.2.2.2.2.1, hp.2.2.2.2.2⟩
theorem subQ_make {r s : QI} (hr : Parts r) (hs : Parts s) (okr : okQ r = true) (oks : okQ s = true) : makeQ (subS (leftS r s) (leftS s r)) (denS r s) = subQ r s := by
  have l := leftS_eq hr hs
  have m := leftS_eq hs hr
  have d := denS_eq hr hs
  have e : subS (leftS r s) (leftS s r) = ofZ (numQ r * denQ s - numQ s * denQ r) := by
    unfold subS
    rw [if_pos ⟨l.2.1, m.2.1⟩, l.2.2, m.2.2]
  have n := numQ_neg oks
  rw [e, d.1, makeQ_ofZ (sum_abs (cross_abs hr hs.dlt) (cross_abs hs hr.dlt)).2 (by decide) rfl d.2.2 (by rw [← d.1]; exact d.2.1)]
  unfold subQ addQ
  rw [if_pos n.1, if_pos ⟨okr, n.2.1⟩, n.2.2.1, n.2.2.2, Int.neg_mul, ← Int.sub_eq_add_neg]
  simp
theorem sign_of {q : QI} (h : Parts q) : q.1.1 = decide (numQ q < 0) := okS_sign h.okn
theorem bne_lt {a b : Bool} : (a != b) = (a != b) := rfl
theorem lowQ_sign {n m : Bool} {a b : Nat} (h : a ≠ 0 → n = m) : lowQ n a b = lowQ m a b := by
  by_cases ha : a = 0
  · subst ha
    unfold lowQ
    have e : ∀ k : Bool, mkS k (limbs (0 / Nat.gcd 0 b)) = zeroS := fun k => by
      rw [Nat.zero_div, mkS_limbs]
      cases k <;> exact ofZ_zero
    rw [e, e]
  · rw [h ha]
theorem mulQ_make {r s : QI} (hr : Parts r) (hs : Parts s) (okr : okQ r = true) (oks : okQ s = true) : makeQ (topS r s) (denS r s) = mulQ r s := by
  have t := topS_eq hr hs
  have d := denS_eq hr hs
  rw [t.1, d.1, makeQ_ofZ t.2.1 (by decide) rfl d.2.2 (by rw [← d.1]; exact d.2.1), t.2.2]
  unfold mulQ
  rw [if_pos ⟨okr, oks⟩]
  refine lowQ_sign fun h => ?_
  have hr0 : topN r ≠ 0 := fun e => h (by rw [e, Nat.zero_mul])
  have hs0 : topN s ≠ 0 := fun e => h (by rw [e, Nat.mul_zero])
  rw [hr.top, hs.top]
  have p : 0 < (topN r : Int) * (topN s : Int) := Int.mul_pos (by omega) (by omega)
  have e : decide ((if r.1.1 = true then -(topN r : Int) else topN r) * (if s.1.1 = true then -(topN s : Int) else topN s) < 0) = (r.1.1 != s.1.1) := by
    cases r.1.1 <;> cases s.1.1 <;> simp [Int.neg_mul, Int.mul_neg] <;> omega
  rw [e]
  cases (r.1.1 != s.1.1) <;> rfl
theorem divQ_make {r s : QI} (hr : Parts r) (hs : Parts s) (okr : okQ r = true) (oks : okQ s = true) : makeQ (leftS r s) (leftS s r) = divQ r s := by
  have l := leftS_eq hr hs
  have m := leftS_eq hs hr
  have h1 := ofZ_short (cross_abs hr hs.dlt) (by decide)
  have h2 := ofZ_short (cross_abs hs hr.dlt) (by decide)
  have a1 : (numQ r * denQ s).natAbs = topN r * denQ s := by rw [Int.natAbs_mul, hr.top, Int.natAbs_natCast]; congr 1; split <;> omega
  have a2 : (numQ s * denQ r).natAbs = denQ r * topN s := by rw [Int.natAbs_mul, hs.top, Int.natAbs_natCast, Nat.mul_comm]; congr 1; split <;> omega
  unfold makeQ divQ
  rw [if_pos ⟨l.2.1, m.2.1⟩, if_pos ⟨okr, oks⟩, l.1, m.1, h1.2.2, h2.2.2]
  simp only
  rw [limbs_val, limbs_val, Int.toNat_natCast, Int.toNat_natCast, a1, a2]
  by_cases hs0 : topN s = 0
  · have e : (denQ r * topN s) = 0 := by rw [hs0, Nat.mul_zero]
    have e2 : denQ r * (nval s.1.2).toNat = 0 := e
    rw [e, e2]
    unfold lowQ
    simp
  · refine lowQ_sign fun h => ?_
    have hr0 : topN r ≠ 0 := fun e => h (by rw [e, Nat.zero_mul])
    have p1 : 0 < (topN r : Int) * (denQ s : Int) := Int.mul_pos (by omega) (by have := hs.pos; omega)
    have p2 : 0 < (topN s : Int) * (denQ r : Int) := Int.mul_pos (by omega) (by have := hr.pos; omega)
    have e1 : decide (numQ r * denQ s < 0) = r.1.1 := by rw [hr.top]; cases r.1.1 <;> simp [Int.neg_mul] <;> omega
    have e2 : decide (numQ s * denQ r < 0) = s.1.1 := by rw [hs.top]; cases s.1.1 <;> simp [Int.neg_mul] <;> omega
    rw [e1, e2]
theorem cmpQ_make {r s : QI} (hr : Parts r) (hs : Parts s) (okr : okQ r = true) (oks : okQ s = true) : cmpS (leftS r s) (leftS s r) = cmpQ r s := by
  have l := leftS_eq hr hs
  have m := leftS_eq hs hr
  unfold cmpS cmpQ
  rw [if_pos ⟨l.2.1, m.2.1⟩, if_pos ⟨okr, oks⟩, l.2.2, m.2.2]
end Go.Proofs.YtbpfabicampdkaaGreatDoor

namespace Go.Proofs
open Go.Shelf
def Tryz.lays169_ren : Go.Shelf.Ren := ⟨fun | 169 => 170 | n => n, fun | 70 => 195 | 9 => 9 | 0 => 0 | 72 => 197 | 37 => 22 | 127 => 218 | 3 => 3 | 5 => 5 | n => n, fun | n => n⟩
theorem Tryz.lays169 : Go.Proofs.Lays.n169 Tryz.prog Tryz.lays169_ren := {
  mixed := by kernel_rfl
  f169 := Tryz.func170.trans (congrArg some (by kernel_rfl))
  t0 := Tryz.underlying0
  a0 := Tryz.isAgg0
  z0 := Tryz.sizeOf0
  v0 := Tryz.zeroValue0
  t3 := Tryz.underlying3
  a3 := Tryz.isAgg3
  z3 := Tryz.sizeOf3
  v3 := Tryz.zeroValue3
  t9 := Tryz.underlying9
  a9 := Tryz.isAgg9
  z9 := Tryz.sizeOf9
  v9 := Tryz.zeroValue9
  t37 := Tryz.underlying22
  a37 := Tryz.isAgg22
  z37 := Tryz.sizeOf22
  v37 := Tryz.zeroValue22
  t70 := Tryz.underlying195
  a70 := Tryz.isAgg195
  z70 := Tryz.sizeOf195
  v70 := Tryz.zeroValue195
  t72 := Tryz.underlying197
  a72 := Tryz.isAgg197
  z72 := Tryz.sizeOf197
  v72 := Tryz.zeroValue197
  t127 := Tryz.underlying218
  a127 := Tryz.isAgg218
  z127 := Tryz.sizeOf218
  v127 := Tryz.zeroValue218 }
theorem Tryz.Builder_Extra_169 : Builder.Extra Tryz.prog Tryz.lays169_ren := {
  sizeBuilder := by kernel_rfl
  liesBuilder := by kernel_rfl
  t5 := Tryz.underlying5
  a5 := Tryz.isAgg5
  z5 := Tryz.sizeOf5
  v5 := Tryz.zeroValue5
  infoByte := by kernel_rfl
  cellsByte := by kernel_rfl
  sizeByte := by kernel_rfl
  neB5 := by decide }
def Tryz.lays231_ren : Go.Shelf.Ren := ⟨fun | 231 => 165 | n => n, fun | 9 => 9 | 5 => 5 | 3 => 3 | 4 => 4 | n => n, fun | n => n⟩
theorem Tryz.lays231 : Go.Proofs.Lays.n231 Tryz.prog Tryz.lays231_ren := {
  mixed := by kernel_rfl
  f231 := Tryz.func165.trans (congrArg some (by kernel_rfl))
  t3 := Tryz.underlying3
  a3 := Tryz.isAgg3
  z3 := Tryz.sizeOf3
  v3 := Tryz.zeroValue3
  t4 := Tryz.underlying4
  a4 := Tryz.isAgg4
  z4 := Tryz.sizeOf4
  v4 := Tryz.zeroValue4
  t5 := Tryz.underlying5
  a5 := Tryz.isAgg5
  z5 := Tryz.sizeOf5
  v5 := Tryz.zeroValue5
  t9 := Tryz.underlying9
  a9 := Tryz.isAgg9
  z9 := Tryz.sizeOf9
  v9 := Tryz.zeroValue9 }
open Go.RowKit in
theorem Tryz.strings_trimLeftByte (s : ByteArray) (c : UInt8) (w : World) :
    Calls Tryz.prog 165 #[.string s, .int .u8 c.toNat] w fun e w' => e = .returned (.string ⟨(Lib.trimLeftB s.data.toList c).toArray⟩) ∧ w' = w := Any.strings_trimLeftByte Tryz.lays231 s c w
def Tryz.lays134_ren : Go.Shelf.Ren := ⟨fun | 134 => 239 | 129 => 244 | n => n, fun | 53 => 247 | 3 => 3 | 4 => 4 | 46 => 185 | 5 => 5 | 9 => 9 | n => n, fun | n => n⟩
theorem Tryz.lays134 : Go.Proofs.Lays.n134 Tryz.prog Tryz.lays134_ren := {
  mixed := by kernel_rfl
  f129 := Tryz.func244.trans (congrArg some (by kernel_rfl))
  f134 := Tryz.func239.trans (congrArg some (by kernel_rfl))
  t3 := Tryz.underlying3
  a3 := Tryz.isAgg3
  z3 := Tryz.sizeOf3
  v3 := Tryz.zeroValue3
  t4 := Tryz.underlying4
  a4 := Tryz.isAgg4
  z4 := Tryz.sizeOf4
  v4 := Tryz.zeroValue4
  t5 := Tryz.underlying5
  a5 := Tryz.isAgg5
  z5 := Tryz.sizeOf5
  v5 := Tryz.zeroValue5
  t9 := Tryz.underlying9
  a9 := Tryz.isAgg9
  z9 := Tryz.sizeOf9
  v9 := Tryz.zeroValue9
  t46 := Tryz.underlying185
  a46 := Tryz.isAgg185
  z46 := Tryz.sizeOf185
  v46 := Tryz.zeroValue185
  t53 := Tryz.underlying247
  a53 := Tryz.isAgg247
  z53 := Tryz.sizeOf247
  v53 := Tryz.zeroValue247 }
theorem Tryz.bits_LeadingZeros64 (x : Int) (w : World) (h0 : 0 ≤ x) (h1 : x ≤ 18446744073709551615) :
    Calls Tryz.prog 239 #[.int .u64 x] w fun e w' => e = .returned (.int .i64 (64 - (Lib.bitLen x.toNat : Int))) ∧ w' = w := Any.bits_LeadingZeros64 Tryz.lays134 x w h0 h1
def Tryz.lays137_ren : Go.Shelf.Ren := ⟨fun | 137 => 235 | 217 => 194 | 266 => 220 | n => n, fun | 9 => 9 | 5 => 5 | 3 => 3 | n => n, fun | n => n⟩
theorem Tryz.lays137 : Go.Proofs.Lays.n137 Tryz.prog Tryz.lays137_ren := {
  mixed := by kernel_rfl
  f137 := Tryz.func235.trans (congrArg some (by kernel_rfl))
  f217 := Tryz.func194.trans (congrArg some (by kernel_rfl))
  f266 := Tryz.func220.trans (congrArg some (by kernel_rfl))
  t3 := Tryz.underlying3
  a3 := Tryz.isAgg3
  z3 := Tryz.sizeOf3
  v3 := Tryz.zeroValue3
  t5 := Tryz.underlying5
  a5 := Tryz.isAgg5
  z5 := Tryz.sizeOf5
  v5 := Tryz.zeroValue5
  t9 := Tryz.underlying9
  a9 := Tryz.isAgg9
  z9 := Tryz.sizeOf9
  v9 := Tryz.zeroValue9 }
open Go.RowKit in
theorem Tryz.strings_IndexByte (s : ByteArray) (c : Int) (w : World) :
    Calls Tryz.prog 235 #[.string s, .int .u8 c] w fun e w' => e = .returned (.int .i64 (Lib.indexByte s.data.toList c.toNat.toUInt8)) ∧ w' = w := Any.strings_IndexByte Tryz.lays137 s c w
def Tryz.lays103_ren : Go.Shelf.Ren := ⟨fun | 103 => 123 | 210 => 161 | 206 => 198 | n => n, fun | 9 => 9 | 4 => 4 | 24 => 146 | 3 => 3 | n => n, fun | n => n⟩
theorem Tryz.lays103 : Go.Proofs.Lays.n103 Tryz.prog Tryz.lays103_ren := {
  mixed := by kernel_rfl
  f103 := Tryz.func123.trans (congrArg some (by kernel_rfl))
  f206 := Tryz.func198.trans (congrArg some (by kernel_rfl))
  f210 := Tryz.func161.trans (congrArg some (by kernel_rfl))
  t3 := Tryz.underlying3
  a3 := Tryz.isAgg3
  z3 := Tryz.sizeOf3
  v3 := Tryz.zeroValue3
  t4 := Tryz.underlying4
  a4 := Tryz.isAgg4
  z4 := Tryz.sizeOf4
  v4 := Tryz.zeroValue4
  t9 := Tryz.underlying9
  a9 := Tryz.isAgg9
  z9 := Tryz.sizeOf9
  v9 := Tryz.zeroValue9
  t24 := Tryz.underlying146
  a24 := Tryz.isAgg146
  z24 := Tryz.sizeOf146
  v24 := Tryz.zeroValue146 }
open Go.RowKit in
theorem Tryz.strings_CutPrefix (s p : ByteArray) (w : World) :
    Calls Tryz.prog 123 #[.string s, .string p] w fun e w' => e = .returned (.tuple #[.string ⟨(Lib.trimPrefix s.data.toList p.data.toList).toArray⟩, .bool (Lib.hasPrefix s.data.toList p.data.toList)]) ∧ w' = w := Any.strings_CutPrefix Tryz.lays103 s p w
open Go.RowKit in
theorem Tryz.Builder_String_any_k (B b : Nat) (l : List UInt8) (w : World) (h : Lib.IsBuilderF 197 5 B b (Lib.byteCells l) w) (hBw : B ≤ w.heap.size) :
    Calls Tryz.prog 170 #[.pointer (some ⟨b, 0, none⟩)] w fun e w' => e = .returned (.string ⟨l.toArray⟩) ∧ (Lib.IsBuilderF 197 5 B b (Lib.byteCells l) w' ∧ Below B w w' ∧ Lib.OthersKept 5 (some b) w w') := Any.Builder_String_any_k Tryz.lays169 Tryz.Builder_Extra_169 B b l w h hBw
def Tryz.laysM171_ren : Go.Shelf.Ren := ⟨fun | 171 => 208 | 243 => 228 | 246 => 238 | 283 => 240 | 284 => 241 | 285 => 242 | 286 => 243 | 129 => 244 | 317 => 245 | 318 => 246 | 319 => 247 | 320 => 248 | 337 => 249 | 338 => 250 | n => n, fun | 3 => 3 | 9 => 9 | 2 => 2 | 4 => 4 | 171 => 258 | 0 => 0 | 53 => 247 | 37 => 22 | 5 => 5 | 173 => 260 | 212 => 263 | 51 => 240 | 20 => 20 | 213 => 264 | 46 => 185 | 232 => 267 | 233 => 268 | n => n, fun | 17 => 7 | 18 => 8 | 19 => 9 | n => n⟩
theorem Tryz.laysM171 : Go.Proofs.LaysM.n171 Tryz.prog Tryz.laysM171_ren := {
  mixed := by kernel_rfl
  f129 := Tryz.func244.trans (congrArg some (by kernel_rfl))
  f171 := Tryz.func208.trans (congrArg some (by kernel_rfl))
  f243 := Tryz.func228.trans (congrArg some (by kernel_rfl))
  f246 := Tryz.func238.trans (congrArg some (by kernel_rfl))
  f283 := Tryz.func240.trans (congrArg some (by kernel_rfl))
  f284 := Tryz.func241.trans (congrArg some (by kernel_rfl))
  f285 := Tryz.func242.trans (congrArg some (by kernel_rfl))
  f286 := Tryz.func243.trans (congrArg some (by kernel_rfl))
  f317 := Tryz.func245.trans (congrArg some (by kernel_rfl))
  f318 := Tryz.func246.trans (congrArg some (by kernel_rfl))
  f319 := Tryz.func247.trans (congrArg some (by kernel_rfl))
  f320 := Tryz.func248.trans (congrArg some (by kernel_rfl))
  f337 := Tryz.func249.trans (congrArg some (by kernel_rfl))
  f338 := Tryz.func250.trans (congrArg some (by kernel_rfl))
  t0 := Tryz.underlying0
  a0 := Tryz.isAgg0
  z0 := Tryz.sizeOf0
  v0 := Tryz.zeroValue0
  t2 := Tryz.underlying2
  a2 := Tryz.isAgg2
  z2 := Tryz.sizeOf2
  v2 := Tryz.zeroValue2
  t3 := Tryz.underlying3
  a3 := Tryz.isAgg3
  z3 := Tryz.sizeOf3
  v3 := Tryz.zeroValue3
  t4 := Tryz.underlying4
  a4 := Tryz.isAgg4
  z4 := Tryz.sizeOf4
  v4 := Tryz.zeroValue4
  t5 := Tryz.underlying5
  a5 := Tryz.isAgg5
  z5 := Tryz.sizeOf5
  v5 := Tryz.zeroValue5
  t9 := Tryz.underlying9
  a9 := Tryz.isAgg9
  z9 := Tryz.sizeOf9
  v9 := Tryz.zeroValue9
  t20 := Tryz.underlying20
  a20 := Tryz.isAgg20
  z20 := Tryz.sizeOf20
  v20 := Tryz.zeroValue20
  t37 := Tryz.underlying22
  a37 := Tryz.isAgg22
  z37 := Tryz.sizeOf22
  v37 := Tryz.zeroValue22
  t46 := Tryz.underlying185
  a46 := Tryz.isAgg185
  z46 := Tryz.sizeOf185
  v46 := Tryz.zeroValue185
  t51 := Tryz.underlying240
  a51 := Tryz.isAgg240
  z51 := Tryz.sizeOf240
  v51 := Tryz.zeroValue240
  t53 := Tryz.underlying247
  a53 := Tryz.isAgg247
  z53 := Tryz.sizeOf247
  v53 := Tryz.zeroValue247
  t171 := Tryz.underlying258
  a171 := Tryz.isAgg258
  z171 := Tryz.sizeOf258
  v171 := Tryz.zeroValue258
  t173 := Tryz.underlying260
  a173 := Tryz.isAgg260
  z173 := Tryz.sizeOf260
  v173 := Tryz.zeroValue260
  t212 := Tryz.underlying263
  a212 := Tryz.isAgg263
  z212 := Tryz.sizeOf263
  v212 := Tryz.zeroValue263
  t213 := Tryz.underlying264
  a213 := Tryz.isAgg264
  z213 := Tryz.sizeOf264
  t232 := Tryz.underlying267
  a232 := Tryz.isAgg267
  z232 := Tryz.sizeOf267
  v232 := Tryz.zeroValue267
  t233 := Tryz.underlying268
  a233 := Tryz.isAgg268
  z233 := Tryz.sizeOf268
  v233 := Tryz.zeroValue268
  g17 := by kernel_rfl
  g18 := by kernel_rfl
  g19 := by kernel_rfl
  i0 := by kernel_rfl
  i2 := by kernel_rfl
  i3 := by kernel_rfl
  i4 := by kernel_rfl
  i5 := by kernel_rfl
  i9 := by kernel_rfl
  i20 := by kernel_rfl
  i37 := by kernel_rfl
  i46 := by kernel_rfl
  i51 := by kernel_rfl
  i53 := by kernel_rfl
  i171 := by kernel_rfl
  i173 := by kernel_rfl
  i212 := by kernel_rfl
  i232 := by kernel_rfl
  i233 := by kernel_rfl
  m17 := by kernel_rfl
  m18 := by kernel_rfl
  m19 := by kernel_rfl }
open Go.RowKit Go.Sort Go.Lib in
theorem Tryz.strconv_Itoa (n : Int) (h0 : -9223372036854775808 ≤ n) (h1 : n ≤ 9223372036854775807) (w : World) (htab : Lib.TabIs Tryz.prog w "internal/strconv.uint64pow10" .u64 Lib.pow10Tab) :
    Calls Tryz.prog 208 #[.int .i64 n] w fun e w' => e = .returned (.string ⟨(Lib.itoa n).toArray⟩) ∧ ∃ k os, w' = grow (w.drewN k) os := Any.strconv_Itoa Tryz.laysM171 n h0 h1 w htab
def Tryz.lays219_ren : Go.Shelf.Ren := ⟨fun | 219 => 160 | 217 => 194 | 225 => 195 | 224 => 196 | 267 => 197 | 266 => 220 | 314 => 221 | n => n, fun | 9 => 9 | 3 => 3 | 4 => 4 | 5 => 5 | 46 => 185 | 146 => 241 | 51 => 240 | n => n, fun | 1 => 2 | n => n⟩
theorem Tryz.lays219 : Go.Proofs.Lays.n219 Tryz.prog Tryz.lays219_ren := {
  mixed := by kernel_rfl
  f217 := Tryz.func194.trans (congrArg some (by kernel_rfl))
  f219 := Tryz.func160.trans (congrArg some (by kernel_rfl))
  f224 := Tryz.func196.trans (congrArg some (by kernel_rfl))
  f225 := Tryz.func195.trans (congrArg some (by kernel_rfl))
  f266 := Tryz.func220.trans (congrArg some (by kernel_rfl))
  f267 := Tryz.func197.trans (congrArg some (by kernel_rfl))
  f314 := Tryz.func221.trans (congrArg some (by kernel_rfl))
  t3 := Tryz.underlying3
  a3 := Tryz.isAgg3
  z3 := Tryz.sizeOf3
  v3 := Tryz.zeroValue3
  t4 := Tryz.underlying4
  a4 := Tryz.isAgg4
  z4 := Tryz.sizeOf4
  v4 := Tryz.zeroValue4
  t5 := Tryz.underlying5
  a5 := Tryz.isAgg5
  z5 := Tryz.sizeOf5
  v5 := Tryz.zeroValue5
  t9 := Tryz.underlying9
  a9 := Tryz.isAgg9
  z9 := Tryz.sizeOf9
  v9 := Tryz.zeroValue9
  t46 := Tryz.underlying185
  a46 := Tryz.isAgg185
  z46 := Tryz.sizeOf185
  v46 := Tryz.zeroValue185
  t51 := Tryz.underlying240
  a51 := Tryz.isAgg240
  z51 := Tryz.sizeOf240
  v51 := Tryz.zeroValue240
  t146 := Tryz.underlying241
  a146 := Tryz.isAgg241
  z146 := Tryz.sizeOf241
  v146 := Tryz.zeroValue241
  g1 := by kernel_rfl }
open Go.RowKit Go.Lib in
theorem Tryz.stringslite_Index_one (s : ByteArray) (c : UInt8) (w : World) :
    Calls Tryz.prog 160 #[.string s, .string ⟨#[c]⟩] w fun e w' => e = .returned (.int .i64 (Lib.indexByte s.data.toList c)) ∧ w' = w := Any.stringslite_Index_one Tryz.lays219 s c w
def Tryz.lays264_ren : Go.Shelf.Ren := ⟨fun | 264 => 226 | n => n, fun | 53 => 247 | 46 => 185 | n => n, fun | n => n⟩
theorem Tryz.lays264 : Go.Proofs.Lays.n264 Tryz.prog Tryz.lays264_ren := {
  mixed := by kernel_rfl
  f264 := Tryz.func226.trans (congrArg some (by kernel_rfl))
  t46 := Tryz.underlying185
  a46 := Tryz.isAgg185
  z46 := Tryz.sizeOf185
  v46 := Tryz.zeroValue185
  t53 := Tryz.underlying247
  a53 := Tryz.isAgg247
  z53 := Tryz.sizeOf247
  v53 := Tryz.zeroValue247 }
open Go.RowKit Go.Lib in
theorem Tryz.bits_Mul64 (x y : Nat) (hx : x < 18446744073709551616) (hy : y < 18446744073709551616) (w : World) :
    Calls Tryz.prog 226 #[.int .u64 x, .int .u64 y] w fun e w' => e = .returned (.tuple #[.int .u64 ((x * y / 18446744073709551616 : Nat) : Int), .int .u64 ((x * y % 18446744073709551616 : Nat) : Int)]) ∧ w' = w := Any.bits_Mul64 Tryz.lays264 x y hx hy w
def Tryz.lays105_ren : Go.Shelf.Ren := ⟨fun | 105 => 171 | 212 => 204 | 99 => 205 | 165 => 206 | 166 => 169 | 170 => 207 | 169 => 170 | 263 => 225 | 264 => 226 | 206 => 198 | 240 => 203 | 241 => 227 | 276 => 224 | 277 => 237 | n => n, fun | 9 => 9 | 3 => 3 | 4 => 4 | 20 => 20 | 0 => 0 | 46 => 185 | 109 => 219 | 5 => 5 | 72 => 197 | 76 => 198 | 51 => 240 | 146 => 241 | 53 => 247 | 148 => 248 | 70 => 195 | 37 => 22 | 75 => 180 | 127 => 218 | 164 => 244 | 80 => 200 | n => n, fun | n => n⟩
theorem Tryz.lays105 : Go.Proofs.Lays.n105 Tryz.prog Tryz.lays105_ren := {
  mixed := by kernel_rfl
  f99 := Tryz.func205.trans (congrArg some (by kernel_rfl))
  f105 := Tryz.func171.trans (congrArg some (by kernel_rfl))
  f165 := Tryz.func206.trans (congrArg some (by kernel_rfl))
  f166 := Tryz.func169.trans (congrArg some (by kernel_rfl))
  f169 := Tryz.func170.trans (congrArg some (by kernel_rfl))
  f170 := Tryz.func207.trans (congrArg some (by kernel_rfl))
  f206 := Tryz.func198.trans (congrArg some (by kernel_rfl))
  f212 := Tryz.func204.trans (congrArg some (by kernel_rfl))
  f240 := Tryz.func203.trans (congrArg some (by kernel_rfl))
  f241 := Tryz.func227.trans (congrArg some (by kernel_rfl))
  f263 := Tryz.func225.trans (congrArg some (by kernel_rfl))
  f264 := Tryz.func226.trans (congrArg some (by kernel_rfl))
  f276 := Tryz.func224.trans (congrArg some (by kernel_rfl))
  f277 := Tryz.func237.trans (congrArg some (by kernel_rfl))
  t0 := Tryz.underlying0
  a0 := Tryz.isAgg0
  z0 := Tryz.sizeOf0
  v0 := Tryz.zeroValue0
  t3 := Tryz.underlying3
  a3 := Tryz.isAgg3
  z3 := Tryz.sizeOf3
  v3 := Tryz.zeroValue3
  t4 := Tryz.underlying4
  a4 := Tryz.isAgg4
  z4 := Tryz.sizeOf4
  v4 := Tryz.zeroValue4
  t5 := Tryz.underlying5
  a5 := Tryz.isAgg5
  z5 := Tryz.sizeOf5
  v5 := Tryz.zeroValue5
  t9 := Tryz.underlying9
  a9 := Tryz.isAgg9
  z9 := Tryz.sizeOf9
  v9 := Tryz.zeroValue9
  t20 := Tryz.underlying20
  a20 := Tryz.isAgg20
  z20 := Tryz.sizeOf20
  v20 := Tryz.zeroValue20
  t37 := Tryz.underlying22
  a37 := Tryz.isAgg22
  z37 := Tryz.sizeOf22
  v37 := Tryz.zeroValue22
  t46 := Tryz.underlying185
  a46 := Tryz.isAgg185
  z46 := Tryz.sizeOf185
  v46 := Tryz.zeroValue185
  t51 := Tryz.underlying240
  a51 := Tryz.isAgg240
  z51 := Tryz.sizeOf240
  v51 := Tryz.zeroValue240
  t53 := Tryz.underlying247
  a53 := Tryz.isAgg247
  z53 := Tryz.sizeOf247
  v53 := Tryz.zeroValue247
  t70 := Tryz.underlying195
  a70 := Tryz.isAgg195
  z70 := Tryz.sizeOf195
  v70 := Tryz.zeroValue195
  t72 := Tryz.underlying197
  a72 := Tryz.isAgg197
  z72 := Tryz.sizeOf197
  v72 := Tryz.zeroValue197
  t75 := Tryz.underlying180
  a75 := Tryz.isAgg180
  z75 := Tryz.sizeOf180
  v75 := Tryz.zeroValue180
  t76 := Tryz.underlying198
  a76 := Tryz.isAgg198
  z76 := Tryz.sizeOf198
  v76 := Tryz.zeroValue198
  t109 := Tryz.underlying219
  a109 := Tryz.isAgg219
  z109 := Tryz.sizeOf219
  v109 := Tryz.zeroValue219
  t127 := Tryz.underlying218
  a127 := Tryz.isAgg218
  z127 := Tryz.sizeOf218
  v127 := Tryz.zeroValue218
  t146 := Tryz.underlying241
  a146 := Tryz.isAgg241
  z146 := Tryz.sizeOf241
  v146 := Tryz.zeroValue241
  t148 := Tryz.underlying248
  a148 := Tryz.isAgg248
  z148 := Tryz.sizeOf248
  v148 := Tryz.zeroValue248
  t164 := Tryz.underlying244
  a164 := Tryz.isAgg244
  z164 := Tryz.sizeOf244
  v164 := Tryz.zeroValue244 }
theorem Tryz.Builder_Extra_105 : Builder.Extra Tryz.prog Tryz.lays105_ren := {
  sizeBuilder := by kernel_rfl
  liesBuilder := by kernel_rfl
  t5 := Tryz.underlying5
  a5 := Tryz.isAgg5
  z5 := Tryz.sizeOf5
  v5 := Tryz.zeroValue5
  infoByte := by kernel_rfl
  cellsByte := by kernel_rfl
  sizeByte := by kernel_rfl
  neB5 := by decide }
open Go.RowKit Go.Lib in
theorem Tryz.strings_Repeat (s : ByteArray) (c : Nat) (w : World) (hc : c ≤ 9223372036854775807) (hlen : s.size * c ≤ 140737488355328) :
    Calls Tryz.prog 171 #[.string s, .int .i64 c] w fun e w' => e = .returned (.string ⟨(Lib.repeatL s.data.toList c).toArray⟩) ∧ Below w.heap.size w w' := Any.strings_Repeat Tryz.lays105 Tryz.Builder_Extra_105 s c w hc hlen
end Go.Proofs

namespace Go.Proofs.YtbpfabicampdkaaGreatDoor
open Go.RowKit

/-! ### how many bits -/
theorem lenAux_lt : ∀ (f x : Nat), x < 2 ^ f → x < 2 ^ Lib.bitLenAux f x
  | 0, x, h => h
  | f + 1, x, h => by
    unfold Lib.bitLenAux
    by_cases h0 : x = 0
    · rw [if_pos h0, h0]; decide
    · rw [if_neg h0, Nat.add_comm, Nat.pow_succ]
      have := lenAux_lt f (x / 2) (by rw [Nat.pow_succ] at h; omega)
      omega
theorem lenAux_ge : ∀ (f x : Nat), 0 < x → 2 ^ Lib.bitLenAux f x ≤ 2 * x
  | 0, x, h => by show 1 ≤ _; omega
  | f + 1, x, h => by
    unfold Lib.bitLenAux
    rw [if_neg (by omega), Nat.add_comm, Nat.pow_succ]
    by_cases h1 : x / 2 = 0
    · have e : Lib.bitLenAux f (x / 2) = 0 := by
        cases f with
        | zero => rfl
        | succ f => unfold Lib.bitLenAux; rw [if_pos h1]
      rw [e]
      omega
    · have := lenAux_ge f (x / 2) (by omega)
      omega
theorem lenAux_le : ∀ (f x : Nat), Lib.bitLenAux f x ≤ f
  | 0, _ => Nat.le_refl _
  | f + 1, x => by
    unfold Lib.bitLenAux
    split
    · omega
    · have := lenAux_le f (x / 2)
      omega
/-- shifted so far that the highest bit is set -/
theorem shifted {y : Nat} (h0 : 0 < y) (h : y < 18446744073709551616) : Lib.bitLen y ≤ 64 ∧ 64 - Lib.bitLen y < 64 ∧ 9223372036854775808 ≤ y * 2 ^ (64 - Lib.bitLen y) ∧ y * 2 ^ (64 - Lib.bitLen y) < 18446744073709551616 := by
  have h1 := lenAux_lt 64 y h
  have h2 := lenAux_ge 64 y h0
  have h3 := lenAux_le 64 y
  change y < 2 ^ Lib.bitLen y at h1
  change 2 ^ Lib.bitLen y ≤ 2 * y at h2
  change Lib.bitLen y ≤ 64 at h3
  have h4 : Lib.bitLen y ≠ 0 := by
    intro e
    rw [e] at h1
    omega
  have e : 2 ^ Lib.bitLen y * 2 ^ (64 - Lib.bitLen y) = 18446744073709551616 := by
    rw [← Nat.pow_add, show Lib.bitLen y + (64 - Lib.bitLen y) = 64 by omega]
  have hp : 0 < 2 ^ (64 - Lib.bitLen y) := Nat.pow_pos (by omega)
  refine ⟨h3, by omega, ?_, ?_⟩
  · have := Nat.mul_le_mul_right (2 ^ (64 - Lib.bitLen y)) h2
    rw [e, Nat.mul_assoc] at this
    omega
  · have := (Nat.mul_lt_mul_right hp).2 h1
    rw [e] at this
    exact this

/-! ### one digit -/
/-- the guess q with its rest r, for the digit of (u, n) over (A, B) -/
def DigQ (A B u n q r : Nat) : Prop := q * A + r = u ∧ (u * 4294967296 + n) / (A * 4294967296 + B) ≤ q ∧ q ≤ 4294967297
theorem digQ_mul (A B u q r : Nat) (h : q * A + r = u) : q * (A * 4294967296 + B) + r * 4294967296 = u * 4294967296 + q * B := by
  rw [← h, Nat.mul_add, Nat.add_mul, ← Nat.mul_assoc]
  omega
theorem DigQ.start {A B u n : Nat} (hA : 2147483648 ≤ A) (hB : B < 4294967296) (hn : n < 4294967296) (hu : u < A * 4294967296 + B) : DigQ A B u n (u / A) (u % A) := by
  refine ⟨by rw [Nat.mul_comm]; exact Nat.div_add_mod u A, ?_, ?_⟩
  · apply Nat.le_of_lt_succ
    rw [Nat.div_lt_iff_lt_mul (by omega)]
    have h1 := Nat.div_add_mod u A
    have h2 := Nat.mod_lt u (show 0 < A by omega)
    have h3 : (u / A).succ * (A * 4294967296 + B) = A * (u / A) * 4294967296 + A * 4294967296 + (u / A).succ * B := by
      rw [Nat.mul_add, Nat.succ_mul, ← Nat.mul_assoc, Nat.mul_comm (u / A) A]
    rw [h3]
    omega
  · apply Nat.le_of_lt_succ
    rw [Nat.div_lt_iff_lt_mul (by omega)]
    omega
theorem lt_shift {z r u x n : Nat} (e : z + r = u + x) (h : r + n < x) : u + n < z := by omega
/-- too great a guess -/
theorem DigQ.down {A B u n q r : Nat} (h : DigQ A B u n q r) (hu : u < A * 4294967296 + B) (hn : n < 4294967296) (ht : 4294967296 ≤ q ∨ r * 4294967296 + n < q * B) : 0 < q ∧ DigQ A B u n (q - 1) (r + A) := by
  obtain ⟨h1, h2, h3⟩ := h
  have hq : 0 < q := by
    rcases Nat.eq_zero_or_pos q with h0 | h0
    · subst h0
      rcases ht with ht | ht
      · omega
      · rw [Nat.zero_mul] at ht; omega
    · exact h0
  have e := digQ_mul A B u q r h1
  have hlt : (u * 4294967296 + n) / (A * 4294967296 + B) < q := by
    rw [Nat.div_lt_iff_lt_mul (by omega)]
    rcases ht with ht | ht
    · have h5 := Nat.mul_le_mul_right (A * 4294967296 + B) ht
      generalize q * (A * 4294967296 + B) = z at *
      omega
    · exact lt_shift e ht
  refine ⟨hq, ?_, by omega, by omega⟩
  obtain ⟨p, rfl⟩ : ∃ p, q = p + 1 := ⟨q - 1, by omega⟩
  rw [Nat.add_sub_cancel]
  rw [Nat.succ_mul] at h1
  omega
/-- no longer too great -/
theorem DigQ.done {A B u n q r : Nat} (h : DigQ A B u n q r) (hA : 2147483648 ≤ A) (ht : q * B ≤ r * 4294967296 + n) : q = (u * 4294967296 + n) / (A * 4294967296 + B) := by
  obtain ⟨h1, h2, _⟩ := h
  apply Nat.le_antisymm _ h2
  rw [Nat.le_div_iff_mul_le (by omega)]
  have e := digQ_mul A B u q r h1
  omega
theorem DigQ.past {B n q r : Nat} (hB : B < 4294967296) (hq : q ≤ 4294967296) (hr : 4294967296 ≤ r) : q * B ≤ r * 4294967296 + n := by
  have h1 : q * B ≤ 4294967296 * 4294967295 := Nat.mul_le_mul hq (by omega)
  omega
theorem DigQ.rest {A B u n q r : Nat} (h : DigQ A B u n q r) : r = u - q * A := by have := h.1; omega

/-- two digits, one behind the other -/
theorem two_digits (U m1 m0 Y : Nat) (hY : 0 < Y) :
    ((U * 4294967296 + m1) * 4294967296 + m0) / Y = (U * 4294967296 + m1) / Y * 4294967296 + ((U * 4294967296 + m1) % Y * 4294967296 + m0) / Y := by
  have e := Nat.div_add_mod (U * 4294967296 + m1) Y
  have e2 : (U * 4294967296 + m1) * 4294967296 + m0 = (U * 4294967296 + m1) % Y * 4294967296 + m0 + Y * ((U * 4294967296 + m1) / Y * 4294967296) := by
    have : Y * ((U * 4294967296 + m1) / Y * 4294967296) = Y * ((U * 4294967296 + m1) / Y) * 4294967296 := (Nat.mul_assoc _ _ _).symm
    rw [this]
    generalize Y * ((U * 4294967296 + m1) / Y) = z at *
    omega
  rw [e2, Nat.add_mul_div_left _ _ hY, Nat.add_comm]
theorem digit_lt {U n Y : Nat} (hU : U < Y) (hn : n < 4294967296) : (U * 4294967296 + n) / Y < 4294967296 := by
  rw [Nat.div_lt_iff_lt_mul (by omega)]
  have : 4294967296 * (U + 1) ≤ 4294967296 * Y := Nat.mul_le_mul_left _ hU
  omega
/-- the shifted dividend, in three parts -/
theorem shift_parts {hi lo s Y : Nat} (hs : s < 64) (hl : lo < 18446744073709551616) (y : Nat) (hY : Y = y * 2 ^ s) (hh : hi < y) :
    (hi * 18446744073709551616 + lo) / y = ((hi * 2 ^ s + lo / 2 ^ (64 - s)) * 18446744073709551616 + lo * 2 ^ s % 18446744073709551616) / Y ∧ lo / 2 ^ (64 - s) < 2 ^ s ∧ hi * 2 ^ s + lo / 2 ^ (64 - s) < Y := by
  have hp : 0 < 2 ^ s := Nat.pow_pos (by omega)
  have hp2 : 0 < 2 ^ (64 - s) := Nat.pow_pos (by omega)
  have e64 : 2 ^ s * 2 ^ (64 - s) = 18446744073709551616 := by rw [← Nat.pow_add, show s + (64 - s) = 64 by omega]
  have hlt : lo / 2 ^ (64 - s) < 2 ^ s := by rw [Nat.div_lt_iff_lt_mul hp2, e64]; exact hl
  refine ⟨?_, hlt, ?_⟩
  · have e : (hi * 2 ^ s + lo / 2 ^ (64 - s)) * 18446744073709551616 + lo * 2 ^ s % 18446744073709551616 = (hi * 18446744073709551616 + lo) * 2 ^ s := by
      have e1 : lo * 2 ^ s / 18446744073709551616 = lo / 2 ^ (64 - s) := by
        rw [← e64, Nat.mul_comm (2 ^ s) (2 ^ (64 - s)), Nat.mul_div_mul_right _ _ hp]
      have e2 := Nat.div_add_mod (lo * 2 ^ s) 18446744073709551616
      rw [e1] at e2
      have e3 : (hi * 18446744073709551616 + lo) * 2 ^ s = hi * 2 ^ s * 18446744073709551616 + lo * 2 ^ s := by rw [Nat.add_mul, Nat.mul_right_comm]
      rw [e3]
      omega
    rw [e, hY, Nat.mul_div_mul_right _ _ hp]
  · rw [hY]
    have : (hi + 1) * 2 ^ s ≤ y * 2 ^ s := Nat.mul_le_mul_right _ hh
    rw [Nat.add_mul] at this
    omega
theorem or_add {a b s : Nat} (h : b < 2 ^ s) (ha : a * 2 ^ s < 18446744073709551616) (hb : b < 18446744073709551616) : bits .or .u64 ((a * 2 ^ s : Nat) : Int) (b : Int) = ((a * 2 ^ s + b : Nat) : Int) := by
  rw [bits_or_u64_nat _ _ ha hb]
  congr 1
  rw [Nat.mul_comm, ← Nat.two_pow_add_eq_or_of_lt h]
theorem and_low {a : Nat} (h : a < 18446744073709551616) : bits .and .u64 (a : Int) 4294967295 = ((a % 4294967296 : Nat) : Int) := by
  have h1 := bits_and_u64_nat a 4294967295 h (by omega)
  rw [show a &&& 4294967295 = a % 4294967296 from Nat.and_two_pow_sub_one_eq_mod a 32] at h1
  exact h1
theorem wrapU (a : Nat) : IntKind.u64.wrap (a : Int) = ((a % 18446744073709551616 : Nat) : Int) := by rw [IntKind.wrap_u64]; omega
theorem wrapL (a : Nat) (h : a < 18446744073709551616) : IntKind.u64.wrap (a : Int) = (a : Int) := by rw [IntKind.wrap_u64]; omega
theorem wrapD {a b c : Nat} (hc : c ≤ a) (h : a - c < 18446744073709551616) (hb : b = a - c) : IntKind.u64.wrap (IntKind.u64.wrap (a : Int) - IntKind.u64.wrap (c : Int)) = (b : Int) := by
  rw [IntKind.wrap_u64, IntKind.wrap_u64, IntKind.wrap_u64]
  omega
theorem wrapT {U m z v : Nat} (h : z + v = U * 4294967296 + m) (hv : v < 18446744073709551616) :
    IntKind.u64.wrap (IntKind.u64.wrap (IntKind.u64.wrap ((U : Int) * 4294967296) + (m : Int)) - IntKind.u64.wrap (z : Int)) = (v : Int) := by
  rw [IntKind.wrap_u64, IntKind.wrap_u64, IntKind.wrap_u64, IntKind.wrap_u64]
  omega

/-- the quotient, and whatever rest -/
def QuoPost (q : Nat) (w : World) (e : Ending) (w' : World) : Prop := (∃ r, e = .returned (.tuple #[.int .u64 q, .int .u64 r])) ∧ ∃ n, w.drewN n = w'
set_option maxHeartbeats 400000 in
set_option maxRecDepth 100000 in
theorem div64_small (lo y : Nat) (h0 : 0 < y) (hl : lo < 18446744073709551616) (hy : y < 18446744073709551616) (w : World) :
    Calls Tryz.prog 233 #[.int .u64 0, .int .u64 lo, .int .u64 y] w (QuoPost (lo / y) w) := by
  have hq := Nat.div_le_self lo y
  have e1 : IntKind.u64.wrap ((lo : Int) / (y : Int)) = ((lo / y : Nat) : Int) := by
    rw [← Int.natCast_ediv, wrapL _ (by omega)]
  have hy0 : ¬ ((y : Int) = 0) := by omega
  have hy1 : ¬ (y = 0) := by omega
  go_enter Tryz.func233, Tryz.ntmps233
  go_wp2
  go_quiet (fail)
  go_wp2
  go_ret2
  exact ⟨⟨_, rfl⟩, _, rfl⟩

/-- what stands in the guess's two slots -/
def DigS (A B u n : Nat) (q r : Value) : Prop := ∃ qn rn : Nat, q = .int .u64 qn ∧ r = .int .u64 rn ∧ rn < 4294967296 ∧ Hid (DigQ A B u n qn rn)
set_option maxHeartbeats 2000000 in
set_option maxRecDepth 100000 in
theorem div64_big (hi lo y : Nat) (hh : hi < y) (h0 : 0 < hi) (hl : lo < 18446744073709551616) (hy : y < 18446744073709551616) (w : World) :
    Calls Tryz.prog 233 #[.int .u64 hi, .int .u64 lo, .int .u64 y] w (QuoPost ((hi * 18446744073709551616 + lo) / y) w) := by
  obtain ⟨hb1, hs, hY0, hY1⟩ := shifted (y := y) (by omega) hy
  have hsn : (64 : Int) - (Lib.bitLen y : Int) = ((64 - Lib.bitLen y : Nat) : Int) := by omega
  have HSN := Lib.hid hsn
  clear hsn
  generalize 64 - Lib.bitLen y = s at *
  obtain ⟨hp1, hp2, hp3⟩ := shift_parts hs hl y rfl hh
  have hor : bits .or .u64 ((hi * 2 ^ s : Nat) : Int) ((lo / 2 ^ (64 - s) : Nat) : Int) = ((hi * 2 ^ s + lo / 2 ^ (64 - s) : Nat) : Int) := or_add hp2 (by have := Nat.zero_le (lo / 2 ^ (64 - s)); have := Nat.le_add_right (hi * 2 ^ s) (lo / 2 ^ (64 - s)); exact Nat.lt_of_le_of_lt this (Nat.lt_trans hp3 hY1)) (by have := Nat.div_le_self lo (2 ^ (64 - s)); omega)
  have e1 : IntKind.u64.wrap ((y : Int) * 2 ^ s) = ((y * 2 ^ s : Nat) : Int) := by
    rw [show (y : Int) * 2 ^ s = ((y * 2 ^ s : Nat) : Int) by push_cast; rfl, wrapL _ hY1]
  have e3 : IntKind.u64.wrap ((hi : Int) * 2 ^ s) = ((hi * 2 ^ s : Nat) : Int) := by
    rw [show (hi : Int) * 2 ^ s = ((hi * 2 ^ s : Nat) : Int) by push_cast; rfl, wrapL _ (Nat.lt_of_le_of_lt (Nat.le_add_right (hi * 2 ^ s) (lo / 2 ^ (64 - s))) (Nat.lt_trans hp3 hY1))]
  have e4 : (lo : Int) / 2 ^ (64 - s) = ((lo / 2 ^ (64 - s) : Nat) : Int) := by push_cast; rfl
  have e5 : IntKind.u64.wrap ((lo : Int) * 2 ^ s) = ((lo * 2 ^ s % 18446744073709551616 : Nat) : Int) := by
    rw [show (lo : Int) * 2 ^ s = ((lo * 2 ^ s : Nat) : Int) by push_cast; rfl, wrapU]
  have hm : lo * 2 ^ s % 18446744073709551616 < 18446744073709551616 := Nat.mod_lt _ (by omega)
  rw [← e4] at hor
  have HP := Lib.hid hp1
  clear hp1 hp2 e4
  generalize hi * 2 ^ s + lo / 2 ^ (64 - s) = U at *
  generalize lo * 2 ^ s % 18446744073709551616 = M at *
  generalize y * 2 ^ s = Y at *
  generalize hi * 2 ^ s = H at *
  -- the halves
  have a1 := and_low hY1
  have a2 := and_low hm
  obtain ⟨A, hA⟩ : ∃ A, A = Y / 4294967296 := ⟨_, rfl⟩
  obtain ⟨B, hB⟩ : ∃ B, B = Y % 4294967296 := ⟨_, rfl⟩
  obtain ⟨m1, hm1⟩ : ∃ A, A = M / 4294967296 := ⟨_, rfl⟩
  obtain ⟨m0, hm0⟩ : ∃ A, A = M % 4294967296 := ⟨_, rfl⟩
  have hAB : Y = A * 4294967296 + B := by omega
  have hMM : M = m1 * 4294967296 + m0 := by omega
  have hA0 : 2147483648 ≤ A := by omega
  have hA1 : A < 4294967296 := by omega
  have hB1 : B < 4294967296 := by omega
  have hm11 : m1 < 4294967296 := by omega
  have hm01 : m0 < 4294967296 := by omega
  have a3 : (Y : Int) / 4294967296 = (A : Int) := by omega
  have a4 : (M : Int) / 4294967296 = (m1 : Int) := by omega
  rw [← hB] at a1
  rw [← hm0] at a2
  have HY := Lib.hid hAB
  have HM := Lib.hid hMM
  clear hA hB hm1 hm0 hAB hMM hY0
  have hU64 : U < 18446744073709551616 := by omega
  have hq1 : U / A < 18446744073709551616 := Nat.lt_of_le_of_lt (Nat.div_le_self _ _) hU64
  have hq2 : U % A < 4294967296 := by have := Nat.mod_lt U (show 0 < A by omega); omega
  have e6 : IntKind.u64.wrap ((U : Int) / (A : Int)) = ((U / A : Nat) : Int) := by
    rw [← Int.natCast_ediv, wrapL _ hq1]
  have e7 : IntKind.u64.wrap ((U : Int) - IntKind.u64.wrap (((U / A : Nat) : Int) * (A : Int))) = ((U % A : Nat) : Int) := by
    have h1 := Nat.div_add_mod U A
    rw [show ((U / A : Nat) : Int) * (A : Int) = ((A * (U / A) : Nat) : Int) by push_cast; rw [Int.mul_comm], ← wrapL U hU64]
    exact wrapD (by omega) (by omega) (by omega)
  have HD1 : Hid (DigQ A B U m1 (U / A) (U % A)) := Lib.hid (DigQ.start hA0 hB1 hm11 (by rw [← HY.out]; exact hp3))
  have HUY := Lib.hid hp3
  clear hp3 hq1
  generalize U / A = q1 at *
  generalize U % A = r1 at *
  have hd1 := digit_lt HUY.out hm11
  have HT := Lib.hid (show (hi * 18446744073709551616 + lo) / y = (U * 4294967296 + m1) / Y * 4294967296 + ((U * 4294967296 + m1) % Y * 4294967296 + m0) / Y by
    rw [HP.out, HM.out, show U * 18446744073709551616 + (m1 * 4294967296 + m0) = (U * 4294967296 + m1) * 4294967296 + m0 by omega]
    exact two_digits U m1 m0 Y (by omega))
  have hvY := Nat.mod_lt (U * 4294967296 + m1) (show 0 < Y by omega)
  have f1 : IntKind.u64.wrap (IntKind.u64.wrap (IntKind.u64.wrap ((U : Int) * 4294967296) + (m1 : Int)) - IntKind.u64.wrap ((((U * 4294967296 + m1) / Y : Nat) : Int) * (Y : Int))) = (((U * 4294967296 + m1) % Y : Nat) : Int) := by
    have h1 := Nat.div_add_mod (U * 4294967296 + m1) Y
    rw [show (((U * 4294967296 + m1) / Y : Nat) : Int) * (Y : Int) = ((Y * ((U * 4294967296 + m1) / Y) : Nat) : Int) by rw [Int.mul_comm, ← Int.natCast_mul]]
    exact wrapT h1 (by omega)
  have hvD : (U * 4294967296 + m1) / Y = (U * 4294967296 + m1) / (A * 4294967296 + B) := by rw [← HY.out]
  obtain ⟨D1, hD1⟩ : ∃ D1, D1 = (U * 4294967296 + m1) / Y := ⟨_, rfl⟩
  obtain ⟨V, hV⟩ : ∃ V, V = (U * 4294967296 + m1) % Y := ⟨_, rfl⟩
  rw [← hD1] at hd1 HT f1 hvD
  rw [← hV] at HT hvY f1
  have HV1 := Lib.hid hvD
  clear hvD hD1 hV
  have hA2 : ¬ ((A : Int) = 0) := by omega
  go_enter Tryz.func233, Tryz.ntmps233
  go_wp2_with fail
  refine (Tryz.bits_LeadingZeros64 (y : Int) _ (by omega) (by omega)).mono ?_
  rintro e w1 ⟨rfl, rfl⟩
  rw [Int.toNat_natCast, HSN.out]
  go_upto_block 0 with fail
  go_cut [15] from 67 to 85 (fun q wx => q = .int .u64 (D1 : Int) ∧ wx = w1)
  case first =>
    go_wp2_with fail
    go_loop [15, 16] (DigS A B U m1) (fun q _ => (intOf q).toNat)
    case atStart => exact ⟨q1, r1, rfl, rfl, hq2, HD1⟩
    case round =>
      clear e1 e3 hor a1 a2 a3 a4 e5 e6 e7 hY1 hh h0 hl hs hb1 hm hU64 hq2 f1 hvY hd1
      obtain ⟨q, r, rfl, rfl, hr, HD⟩ := hrel
      have hqm : (q : Int) ≤ 4294967297 := by have := HD.out.2.2; omega
      have hr' : (r : Int) < 4294967296 := by omega
      clear hr
      by_cases hbig : 4294967296 ≤ q
      · have HN := Lib.hid (HD.out.down (by rw [← HY.out]; exact HUY.out) hm11 (.inl hbig))
        have hbig' : (4294967296 : Int) ≤ (q : Int) := by omega
        clear hbig
        have hq0 : (1 : Int) ≤ (q : Int) := by have := HN.out.1; omega
        by_cases hr2 : 4294967296 ≤ r + A
        · have HF : Hid (Value.int IntKind.u64 ((q : Int) - 1) = Value.int IntKind.u64 (D1 : Int)) := Lib.hid (by
            have h1 := HN.out.2.done hA0 (DigQ.past hB1 (by omega) hr2)
            rw [← HV1.out] at h1
            rw [← h1]
            congr 1
            omega)
          obtain ⟨R2, hR2⟩ : ∃ R2 : Nat, (r : Int) + (A : Int) = (R2 : Int) := ⟨r + A, by omega⟩
          have hr3 : (4294967296 : Int) ≤ (R2 : Int) := by omega
          clear hr2
          go_wp2_with fail
          go_meet
          exact ⟨HF.out, rfl⟩
        · have HM2 : Hid (DigS A B U m1 (.int .u64 ((q : Int) - 1)) (.int .u64 ((r + A : Nat) : Int))) := Lib.hid ⟨q - 1, r + A, by congr 1; omega, rfl, by omega, Lib.hid HN.out.2⟩
          obtain ⟨R2, hR2⟩ : ∃ R2 : Nat, (r : Int) + (A : Int) = (R2 : Int) := ⟨r + A, by omega⟩
          have hr3 : decide ((4294967296 : Int) ≤ (R2 : Int)) = false := decide_eq_false (by omega)
          clear hr2
          go_wp2_with fail
          go_round
          case rel => rw [show (r + A : Nat) = R2 by omega] at HM2; exact HM2.out
          case measure => simp [intOf]; omega
      · have hP : q * B ≤ 4294967295 * 4294967295 := Nat.mul_le_mul (by omega) (by omega)
        have e8 : IntKind.u64.wrap ((q : Int) * (B : Int)) = ((q * B : Nat) : Int) := by rw [← Int.natCast_mul, wrapL _ (by omega)]
        have hbig' : (q : Int) < 4294967296 := by omega
        by_cases hgt : r * 4294967296 + m1 < q * B
        · have HN := Lib.hid (HD.out.down (by rw [← HY.out]; exact HUY.out) hm11 (.inr hgt))
          have hgt' : 4294967296 * (r : Int) + (m1 : Int) < ((q * B : Nat) : Int) := by omega
          clear hgt hbig hP
          generalize q * B = P at *
          have hq0 : (1 : Int) ≤ (q : Int) := by have := HN.out.1; omega
          by_cases hr2 : 4294967296 ≤ r + A
          · have HF : Hid (Value.int IntKind.u64 ((q : Int) - 1) = Value.int IntKind.u64 (D1 : Int)) := Lib.hid (by
              have h1 := HN.out.2.done hA0 (DigQ.past hB1 (by omega) hr2)
              rw [← HV1.out] at h1
              rw [← h1]
              congr 1
              omega)
            obtain ⟨R2, hR2⟩ : ∃ R2 : Nat, (r : Int) + (A : Int) = (R2 : Int) := ⟨r + A, by omega⟩
            have hr3 : (4294967296 : Int) ≤ (R2 : Int) := by omega
            clear hr2
            go_wp2_with fail
            go_meet
            exact ⟨HF.out, rfl⟩
          · have HM2 : Hid (DigS A B U m1 (.int .u64 ((q : Int) - 1)) (.int .u64 ((r + A : Nat) : Int))) := Lib.hid ⟨q - 1, r + A, by congr 1; omega, rfl, by omega, Lib.hid HN.out.2⟩
            obtain ⟨R2, hR2⟩ : ∃ R2 : Nat, (r : Int) + (A : Int) = (R2 : Int) := ⟨r + A, by omega⟩
            have hr3 : decide ((4294967296 : Int) ≤ (R2 : Int)) = false := decide_eq_false (by omega)
            clear hr2
            go_wp2_with fail
            go_round
            case rel => rw [show (r + A : Nat) = R2 by omega] at HM2; exact HM2.out
            case measure => simp [intOf]; omega
        · have HF : Hid (q = D1) := Lib.hid (by rw [HV1.out]; exact HD.out.done hA0 (by omega))
          obtain ⟨T, hT⟩ : ∃ T : Nat, 4294967296 * (r : Int) + (m1 : Int) = (T : Int) := ⟨r * 4294967296 + m1, by omega⟩
          have hgt' : decide (T < q * B) = false := decide_eq_false (by omega)
          have hbig2 : decide ((4294967296 : Int) ≤ (q : Int)) = false := decide_eq_false (by omega)
          clear hgt hbig hP hbig'
          generalize q * B = P at *
          go_wp2_with fail
          go_meet
          exact ⟨by rw [← HF.out], rfl⟩
  case rest =>
    obtain ⟨hq, hw⟩ := hcut
    subst hq
    subst hw
    have HVY := Lib.hid hvY
    obtain ⟨D0, hD0⟩ : ∃ D0, D0 = (V * 4294967296 + m0) / Y := ⟨_, rfl⟩
    have hd0 := digit_lt HVY.out hm01
    have hvE : (V * 4294967296 + m0) / Y = (V * 4294967296 + m0) / (A * 4294967296 + B) := by rw [← HY.out]
    rw [← hD0] at hd0 HT hvE
    have HV0 := Lib.hid hvE
    clear hvE hD0
    have hV64 : V < 18446744073709551616 := by omega
    clear e6 e7 hq2 hU64
    have hq1 : V / A < 18446744073709551616 := Nat.lt_of_le_of_lt (Nat.div_le_self _ _) hV64
    have hq3 : V % A < 4294967296 := by have := Nat.mod_lt V (show 0 < A by omega); omega
    have e6 : IntKind.u64.wrap ((V : Int) / (A : Int)) = ((V / A : Nat) : Int) := by
      rw [← Int.natCast_ediv, wrapL _ hq1]
    have e7 : IntKind.u64.wrap ((V : Int) - IntKind.u64.wrap (((V / A : Nat) : Int) * (A : Int))) = ((V % A : Nat) : Int) := by
      have h1 := Nat.div_add_mod V A
      rw [show ((V / A : Nat) : Int) * (A : Int) = ((A * (V / A) : Nat) : Int) by push_cast; rw [Int.mul_comm], ← wrapL V hV64]
      exact wrapD (by omega) (by omega) (by omega)
    have HD2 : Hid (DigQ A B V m0 (V / A) (V % A)) := Lib.hid (DigQ.start hA0 hB1 hm01 (by rw [← HY.out]; exact hvY))
    clear hvY hq1
    generalize V / A = q2 at *
    generalize V % A = r2 at *
    have HTI := Lib.hid (show (((hi * 18446744073709551616 + lo) / y : Nat) : Int) = (D1 : Int) * 4294967296 + (D0 : Int) by rw [HT.out, Int.natCast_add, Int.natCast_mul]; rfl)
    go_upto_block 2 with fail
    go_cut [18] from 102 to 120 (fun q wx => q = .int .u64 (D0 : Int) ∧ wx = wc)
    case first =>
      go_wp2_with fail
      go_loop [18, 16] (DigS A B V m0) (fun q _ => (intOf q).toNat)
      case atStart => exact ⟨q2, r2, rfl, rfl, hq3, HD2⟩
      case round =>
        clear e6 e7 hY1 hh h0 hl hm hq3 hd1 hd0
        obtain ⟨q, r, rfl, rfl, hr, HD⟩ := hrel
        have hqm : (q : Int) ≤ 4294967297 := by have := HD.out.2.2; omega
        have hr' : (r : Int) < 4294967296 := by omega
        clear hr
        by_cases hbig : 4294967296 ≤ q
        · have HN := Lib.hid (HD.out.down (by rw [← HY.out]; exact HVY.out) hm01 (.inl hbig))
          have hbig' : (4294967296 : Int) ≤ (q : Int) := by omega
          clear hbig
          have hq0 : (1 : Int) ≤ (q : Int) := by have := HN.out.1; omega
          by_cases hr2 : 4294967296 ≤ r + A
          · have HF : Hid (Value.int IntKind.u64 ((q : Int) - 1) = Value.int IntKind.u64 (D0 : Int)) := Lib.hid (by
              have h1 := HN.out.2.done hA0 (DigQ.past hB1 (by omega) hr2)
              rw [← HV0.out] at h1
              rw [← h1]
              congr 1
              omega)
            obtain ⟨R2, hR2⟩ : ∃ R2 : Nat, (r : Int) + (A : Int) = (R2 : Int) := ⟨r + A, by omega⟩
            have hr3 : (4294967296 : Int) ≤ (R2 : Int) := by omega
            clear hr2
            go_wp2_with fail
            go_meet
            exact ⟨HF.out, rfl⟩
          · have HM2 : Hid (DigS A B V m0 (.int .u64 ((q : Int) - 1)) (.int .u64 ((r + A : Nat) : Int))) := Lib.hid ⟨q - 1, r + A, by congr 1; omega, rfl, by omega, Lib.hid HN.out.2⟩
            obtain ⟨R2, hR2⟩ : ∃ R2 : Nat, (r : Int) + (A : Int) = (R2 : Int) := ⟨r + A, by omega⟩
            have hr3 : decide ((4294967296 : Int) ≤ (R2 : Int)) = false := decide_eq_false (by omega)
            clear hr2
            go_wp2_with fail
            go_round
            case rel => rw [show (r + A : Nat) = R2 by omega] at HM2; exact HM2.out
            case measure => simp [intOf]; omega
        · have hP : q * B ≤ 4294967295 * 4294967295 := Nat.mul_le_mul (by omega) (by omega)
          have e8 : IntKind.u64.wrap ((q : Int) * (B : Int)) = ((q * B : Nat) : Int) := by rw [← Int.natCast_mul, wrapL _ (by omega)]
          have hbig' : (q : Int) < 4294967296 := by omega
          by_cases hgt : r * 4294967296 + m0 < q * B
          · have HN := Lib.hid (HD.out.down (by rw [← HY.out]; exact HVY.out) hm01 (.inr hgt))
            have hgt' : 4294967296 * (r : Int) + (m0 : Int) < ((q * B : Nat) : Int) := by omega
            clear hgt hbig hP
            generalize q * B = P at *
            have hq0 : (1 : Int) ≤ (q : Int) := by have := HN.out.1; omega
            by_cases hr2 : 4294967296 ≤ r + A
            · have HF : Hid (Value.int IntKind.u64 ((q : Int) - 1) = Value.int IntKind.u64 (D0 : Int)) := Lib.hid (by
                have h1 := HN.out.2.done hA0 (DigQ.past hB1 (by omega) hr2)
                rw [← HV0.out] at h1
                rw [← h1]
                congr 1
                omega)
              obtain ⟨R2, hR2⟩ : ∃ R2 : Nat, (r : Int) + (A : Int) = (R2 : Int) := ⟨r + A, by omega⟩
              have hr3 : (4294967296 : Int) ≤ (R2 : Int) := by omega
              clear hr2
              go_wp2_with fail
              go_meet
              exact ⟨HF.out, rfl⟩
            · have HM2 : Hid (DigS A B V m0 (.int .u64 ((q : Int) - 1)) (.int .u64 ((r + A : Nat) : Int))) := Lib.hid ⟨q - 1, r + A, by congr 1; omega, rfl, by omega, Lib.hid HN.out.2⟩
              obtain ⟨R2, hR2⟩ : ∃ R2 : Nat, (r : Int) + (A : Int) = (R2 : Int) := ⟨r + A, by omega⟩
              have hr3 : decide ((4294967296 : Int) ≤ (R2 : Int)) = false := decide_eq_false (by omega)
              clear hr2
              go_wp2_with fail
              go_round
              case rel => rw [show (r + A : Nat) = R2 by omega] at HM2; exact HM2.out
              case measure => simp [intOf]; omega
          · have HF : Hid (q = D0) := Lib.hid (by rw [HV0.out]; exact HD.out.done hA0 (by omega))
            obtain ⟨T, hT⟩ : ∃ T : Nat, 4294967296 * (r : Int) + (m0 : Int) = (T : Int) := ⟨r * 4294967296 + m0, by omega⟩
            have hgt' : decide (T < q * B) = false := decide_eq_false (by omega)
            have hbig2 : decide ((4294967296 : Int) ≤ (q : Int)) = false := decide_eq_false (by omega)
            clear hgt hbig hP hbig'
            generalize q * B = P at *
            go_wp2_with fail
            go_meet
            exact ⟨by rw [← HF.out], rfl⟩
    case rest =>
      obtain ⟨hq, hw⟩ := hcut
      subst hq
      subst hw
      go_wp2_with fail
      go_ret2
      unfold QuoPost
      rw [HTI.out]
      exact ⟨⟨_, rfl⟩, 0, rfl⟩
theorem div64_any (hi lo y : Nat) (hh : hi < y) (hl : lo < 18446744073709551616) (hy : y < 18446744073709551616) (w : World) :
    Calls Tryz.prog 233 #[.int .u64 hi, .int .u64 lo, .int .u64 y] w (QuoPost ((hi * 18446744073709551616 + lo) / y) w) := by
  rcases Nat.eq_zero_or_pos hi with h0 | h0
  · subst h0
    rw [Nat.zero_mul, Nat.zero_add]
    exact div64_small lo y hh hl hy w
  · exact div64_big hi lo y hh h0 hl hy w

end Go.Proofs.YtbpfabicampdkaaGreatDoor

namespace Go.Proofs.YtbpfabicampdkaaGreatDoor
open Go.RowKit

/-- what a nat lies in: the cells behind its limbs, and the type of the block (a nat alone, or the head of an integer) -/
structure NatK where
  rest : List Value
  ty : TypeId
  ne : ty ≠ 3
@[reducible] def natK : NatK := ⟨[], 88, by decide⟩
/-- the pointer at block b leads to a nat of the call's own whose limbs are xs -/
def NatX (K : NatK) (B b : Nat) (xs : List Int) (w : World) : Prop :=
  B ≤ b ∧ ∃ v, w.heap[b]? = some (.cells (v :: K.rest).toArray K.ty (0, 0)) ∧ w.ownsRow B 3 1 v xs.length (intsV xs) ∧ v.ownBlock ≠ some b

abbrev NatAt (B b : Nat) (xs : List Int) (w : World) : Prop := NatX natK B b xs w

theorem NatX.lt {K : NatK} {B b : Nat} {xs : List Int} {w : World} (h : NatX K B b xs w) : b < w.heap.size := by
  obtain ⟨_, v, hb, _⟩ := h
  exact (Array.getElem?_eq_some_iff.1 hb).1
theorem NatX.cell {K : NatK} {v : Value} {b : Nat} {w : World} (hb : w.heap[b]? = some (.cells (v :: K.rest).toArray K.ty (0, 0))) : w.cell? ⟨b, 0, none⟩ = some v := by
  rw [Lib.cell_of_heap hb]; simp
theorem NatX.cell1 {K : NatK} {v u : Value} {b : Nat} {w : World} (hb : w.heap[b]? = some (.cells (v :: K.rest).toArray K.ty (0, 0))) (j : Nat) (hj : K.rest[j]? = some u) : w.cell? ⟨b, j + 1, none⟩ = some u := by
  rw [Lib.cell_of_heap hb]; simpa using hj
/-- new limbs laid into it -/
theorem NatX.put {K : NatK} {B b : Nat} {v v' : Value} {ys : List Int} {w : World} (hB : B ≤ b) (hb : w.heap[b]? = some (.cells (v :: K.rest).toArray K.ty (0, 0))) (hown : w.ownsRow B 3 1 v' ys.length (intsV ys)) :
    NatX K B b ys (w.setCell ⟨b, 0, none⟩ v') := by
  have hne := Lib.ownBlock_ne hown hb K.ne
  refine ⟨hB, v', ?_, ?_, hne⟩
  · simp [World.setCell, Array.getElem?_modify, hb]
  · exact hown.kept (row := some b) ⟨rfl, rfl, rfl, by simp [World.setCell], fun k _ hk => Below.heap_setCell _ _ _ _ (fun e => hk (by simp [e]))⟩ (Or.inr hne)
theorem NatAt.put {B b : Nat} {v v' : Value} {ys : List Int} {w : World} (hB : B ≤ b) (hb : w.heap[b]? = some (.cells #[v] 88 (0, 0))) (hown : w.ownsRow B 3 1 v' ys.length (intsV ys)) :
    NatAt B b ys (w.setCell ⟨b, 0, none⟩ v') := NatX.put (K := natK) hB hb hown
theorem NatX.new {K : NatK} {B : Nat} {v : Value} {xs : List Int} {w : World} (hB : B ≤ w.heap.size) (hown : w.ownsRow B 3 1 v xs.length (intsV xs)) : NatX K B w.heap.size xs (w.alloc (.cells (v :: K.rest).toArray K.ty)) := by
  refine ⟨hB, v, heap_alloc_new w _, own_alloc hown _, fun h => ?_⟩
  have := (own_lt hown h).2
  omega
theorem NatAt.new {B : Nat} {v : Value} {xs : List Int} {w : World} (hB : B ≤ w.heap.size) (hown : w.ownsRow B 3 1 v xs.length (intsV xs)) : NatAt B w.heap.size xs (w.alloc (.cells #[v] 88)) :=
  NatX.new (K := natK) hB hown

set_option maxHeartbeats 1000000 in
set_option maxRecDepth 100000 in
theorem cloneI_any (v : Value) (xs : List Int) (lo hi : Nat) (w : World) (hl : xs.length ≤ 1048576) (hr : Row w lo hi v (intsV xs)) :
    Calls Tryz.prog 121 #[v] w (NewInts xs w) := by
  obtain ⟨i0, hi0, hz0, hz1, hz2⟩ := info_parts intInfo
  obtain ⟨A, c, rfl, hA⟩ := hr
  have q22 : ∀ (w : World) (a : Option Addr) (n c n' c' : Nat), (binOp .eql 28 (.slice a n c) (.slice none n' c')).run Tryz.prog w = .ok (.bool a.isNone) w := fun w a n c n' c' => Lib.run_eql_slice_nil w _ _ a n c n' c' Tryz.underlying28
  cases A with
  | none =>
    obtain rfl : xs = [] := by
      cases xs with
      | nil => rfl
      | cons x r =>
        obtain ⟨a, e, _⟩ := hA 0 _ rfl
        cases e
    clear hA
    go_enter Tryz.func121, Tryz.ntmps121
    go_wp2
    go_ret
    exact ⟨_, rfl, World.ownsRow_nil _ _ _ _, Below.refl _ _⟩
  | some a =>
    have HA := Lib.hid hA
    clear hA
    rw [intsV_length]
    go_enter Tryz.func121, Tryz.ntmps121
    go_wp2_with (at_builtin; refine wpList_append_own _ rfl _ _ 28 rfl w.heap.size 3 i0 (.int .i64 0) 1 8 Tryz.underlying28 hi0 hz0 hz1 hz2 rfl (by decide) _ _ _ rfl (World.ownsRow_made w #[] 0 (Nat.le_refl _) (Nat.zero_le _) rfl) a xs.length c (intsV xs) rfl ?qc1 ?qc2 ?qc3 ?qc4 ?qc5 ?qc6 ?_)
    case qc1 => simp [intsV_length]
    case qc2 =>
      intro j u hj
      obtain ⟨p, e, h1, h2, h3⟩ := HA.out j u hj
      cases e
      exact Lib.cell?_alloc_some _ h3
    case qc3 => intro u hu; obtain ⟨x, _, rfl⟩ := List.mem_map.1 hu; rfl
    case qc4 => unfold maxLen; omega
    case qc5 => omega
    case qc6 => simp
    intro v' w1 hown hgrow hnil
    go_wp2
    go_ret
    exact ⟨v', rfl, by simpa using hown, ((Below.refl _ w).alloc (Nat.le_refl _) _).grown hgrow (by simp) (by intro k hk; simp [Value.ownBlock] at hk; omega)⟩

/-- a new nat that holds xs -/
def NewNat (xs : List Int) (w : World) (e : Ending) (w' : World) : Prop :=
  ∃ b, e = .returned (.pointer (some ⟨b, 0, none⟩)) ∧ NatAt w.heap.size b xs w' ∧ Below w.heap.size w w'

set_option maxHeartbeats 400000 in
set_option maxRecDepth 100000 in
theorem copyNat_any (v : Value) (xs : List Int) (lo hi : Nat) (w : World) (hl : xs.length ≤ 1048576) (hr : Row w lo hi v (intsV xs)) :
    Calls Tryz.prog 156 #[v] w (NewNat xs w) := by
  go_enter Tryz.func156, Tryz.ntmps156
  go_wp2_with fail
  refine (cloneI_any v xs lo hi _ hl hr).mono ?_
  rintro e w1 ⟨v1, rfl, o1, b1⟩
  obtain ⟨A1, c1, rfl⟩ := own_len o1
  go_wp2
  go_ret
  exact ⟨_, rfl, NatAt.new b1.size o1, b1.alloc b1.size _⟩

set_option maxHeartbeats 400000 in
set_option maxRecDepth 100000 in
theorem natResult_any {K : NatK} (B b : Nat) (xs : List Int) (w : World) (hl : xs.length ≤ 1048576) (h : NatX K B b xs w) :
    Calls Tryz.prog 115 #[.pointer (some ⟨b, 0, none⟩)] w (OwnPost B (capL xs) w) := by
  obtain ⟨hB, v, hb, hown, hne⟩ := h
  have hc : w.cell? ⟨b, 0, none⟩ = some v := NatX.cell hb
  obtain ⟨A, c, rfl⟩ := own_len hown
  have HB := Lib.hid hb
  have HO := Lib.hid hown
  clear hb hown hne
  by_cases h50 : 50 < xs.length
  · have HR := Lib.hid (show capL xs = [] by unfold capL; rw [if_pos h50])
    go_enter Tryz.func115, Tryz.ntmps115
    go_wp2
    go_ret
    exact ⟨rfl, _, rfl, by rw [HR.out]; exact World.ownsRow_nil _ _ _ _⟩
  · have HR := Lib.hid (show capL xs = xs by unfold capL; rw [if_neg h50])
    go_enter Tryz.func115, Tryz.ntmps115
    go_wp2
    go_ret
    exact ⟨rfl, _, rfl, by rw [HR.out]; exact HO.out⟩
end Go.Proofs.YtbpfabicampdkaaGreatDoor

namespace Go.Proofs.YtbpfabicampdkaaGreatDoor
open Go.RowKit

/-- what a method leaves: the number, and all below B as it was -/
def LeftX (K : NatK) (B b : Nat) (xs : List Int) (w w' : World) : Prop := NatX K B b xs w' ∧ Below B w w'
abbrev Left (B b : Nat) (xs : List Int) (w w' : World) : Prop := LeftX natK B b xs w w'
theorem zeros_step (xs : List Int) (k : Nat) : xs ++ List.replicate k 0 ++ [(0 : Int)] = xs ++ List.replicate (k + 1) 0 := by
  rw [List.append_assoc, List.replicate_succ']
theorem zeros_pad (xs : List Int) (k p : Nat) (h : xs.length + k ≤ p + 1 ∨ k = 0) (h2 : p < xs.length + k) : xs ++ List.replicate k 0 = padL xs (p + 1) := by
  unfold padL
  rw [show p + 1 - xs.length = k by omega]
theorem intsV_append (xs ys : List Int) : intsV (xs ++ ys) = intsV xs ++ intsV ys := by simp [intsV]

/-- a store into the limbs of a nat -/
theorem NatX.stored {K : NatK} {B b g cap : Nat} {xs : List Int} {w : World} (hB : B ≤ b) (hb : w.heap[b]? = some (.cells (.slice (some ⟨g, 0, none⟩) xs.length cap :: K.rest).toArray K.ty (0, 0)))
    (hown : w.ownsRow B 3 1 (.slice (some ⟨g, 0, none⟩) xs.length cap) xs.length (intsV xs)) (p : Nat) (d : Int) :
    LeftX K B b (xs.set p d) w (w.setCell ⟨g, p, none⟩ (.int .i64 d)) ∧ (w.setCell ⟨g, p, none⟩ (.int .i64 d)).heap[b]? = some (.cells (.slice (some ⟨g, 0, none⟩) xs.length cap :: K.rest).toArray K.ty (0, 0)) ∧
      (w.setCell ⟨g, p, none⟩ (.int .i64 d)).ownsRow B 3 1 (.slice (some ⟨g, 0, none⟩) (xs.set p d).length cap) (xs.set p d).length (intsV (xs.set p d)) := by
  have hne := Lib.ownBlock_ne hown hb K.ne
  have hgb : b ≠ g := fun e => hne (by simp [Value.ownBlock, e])
  obtain ⟨ho, hg⟩ := hown.stored p (.int .i64 d)
  have hlt := own_lt hown (g := g) rfl
  have hbs : B ≤ w.heap.size := by omega
  have hb2 : (w.setCell ⟨g, p, none⟩ (.int .i64 d)).heap[b]? = some (.cells (.slice (some ⟨g, 0, none⟩) xs.length cap :: K.rest).toArray K.ty (0, 0)) := (Below.heap_setCell _ _ _ _ hgb).trans hb
  have hl : (xs.set p d).length = xs.length := List.length_set
  rw [intsV_set] at ho
  refine ⟨⟨⟨hB, _, hb2, by rw [hl]; exact ho, hne⟩, (Below.refl _ _).setCell (p := ⟨g, p, none⟩) hlt.1 _⟩, hb2, by rw [hl]; exact ho⟩

set_option maxHeartbeats 1000000 in
set_option maxRecDepth 100000 in
theorem addAt_any {K : NatK} (B b : Nat) (xs : List Int) (p : Nat) (v : Int) (w : World) (hl : xs.length ≤ 1048576) (hp : p ≤ 1048576) (hv0 : 0 ≤ v) (hv1 : v ≤ 1000000000000000000) (hd : DigN xs) (h : NatX K B b xs w) :
    Calls Tryz.prog 190 #[.pointer (some ⟨b, 0, none⟩), .int .i64 p, .int .i64 v] w fun e w' => e = .returned (.int .i64 (addAtC xs p v)) ∧ LeftX K B b (addAtL xs p v) w w' := by
  obtain ⟨i0, hi0, hz0, hz1, hz2⟩ := info_parts intInfo
  have HD := Lib.hid hd
  clear hd
  go_enter Tryz.func190, Tryz.ntmps190
  go_wp2
  go_loopg [] (p + 1 - xs.length) (fun n wr => ∃ k : Nat, Hid (xs.length + k ≤ p + 1 ∨ k = 0) ∧ Hid (n = p + 1 - (xs.length + k)) ∧ NatX K B b (xs ++ List.replicate k 0) wr ∧ Below B w wr)
  case atStart => exact ⟨0, Lib.hid (Or.inr rfl), Lib.hid (by omega), by simpa using h, Below.refl _ _⟩
  case round =>
    obtain ⟨k, HK, HN, hat, hb1⟩ := hrel
    have hlt := hat.lt
    obtain ⟨hB, u, hbk, hown, hne⟩ := hat
    have hlen : (xs ++ List.replicate k (0 : Int)).length = xs.length + k := by simp
    have hxk : xs.length + k ≤ 1048577 := by rcases HK.out with h | h <;> omega
    rw [hlen] at hown
    by_cases hc : xs.length + k ≤ p
    · obtain ⟨A, c, rfl⟩ := own_len hown
      have c1 : wr.cell? ⟨b, 0, none⟩ = some (.slice A (xs.length + k) c) := NatX.cell hbk
      have HB := Lib.hid hbk
      have HE := Lib.hid hne
      clear hbk hne hlen
      go_wp2_with (at_builtin; refine wpList_append_own _ rfl _ _ 28 rfl B 3 i0 (.int .i64 0) 1 8 Tryz.underlying28 hi0 hz0 hz1 hz2 rfl (by decide) _ _ _ rfl (own_alloc hown _) ⟨wr.heap.size, 0, none⟩ 1 1 [.int .i64 0] rfl rfl (one_new _ _ _) ?c2 ?c3 ?c4 ?c5 ?_)
      case c2 => first | (intro u hu; simp at hu; subst hu; rfl) | rfl
      case c3 => unfold maxLen; omega
      case c4 => omega
      case c5 => simp; omega
      intro v1 w1 hown1 hg1 _
      have hb2 : w1.heap[b]? = some (.cells (.slice A (xs.length + k) c :: K.rest).toArray K.ty (0, 0)) := by
        rw [hg1.block b (by simp; omega) (fun e => HE.out e.symm), Below.heap_alloc _ _ _ hlt]
        exact HB.out
      have d1 : w1.cell? ⟨b, 0, none⟩ = some (.slice A (xs.length + k) c) := NatX.cell hb2
      have f1 : w1.frozen? ⟨b, 0, none⟩ = false := Lib.frozen_of_heap hb2 0
      have hb3 : Below B w w1 := (hb1.alloc (by omega) _).grown hg1 (by simp; omega) (fun k hk => (own_lt hown hk).1)
      obtain ⟨A1, cc1, rfl⟩ := own_len hown1
      have hput := NatX.put (ys := xs ++ List.replicate (k + 1) 0) hB hb2 (by rw [← zeros_step, intsV_append]; simpa [intsV, Nat.add_assoc] using hown1)
      have HB2 := Lib.hid hb2
      clear hb2 c1
      go_wp2
      go_roundg (p + 1 - (xs.length + (k + 1)))
      case measure => have := HN.out; omega
      case rel => exact ⟨k + 1, Lib.hid (by omega), Lib.hid rfl, hput, hb3.setCell (p := ⟨b, 0, none⟩) hB _⟩
    · have HP := Lib.hid (zeros_pad xs k p HK.out (by omega))
      obtain ⟨g, cap, rfl, hg1, hg2, hg3⟩ := own_form hown (by omega)
      have c1 : wr.cell? ⟨b, 0, none⟩ = some (.slice (some ⟨g, 0, none⟩) (xs.length + k) cap) := NatX.cell hbk
      have hpl : p < (padL xs (p + 1)).length := by rw [padL_length]; omega
      have hcell := hown.cellAt p (by omega)
      rw [HP.out, intsV_at _ p hpl, padL_at] at hcell
      have hfr := hown.frozenAt p
      have hdg := getD_dig HD.out p
      have hs : xs.length + k = (padL xs (p + 1)).length := by rw [← HP.out, hlen]
      have HST := Lib.hid (NatX.stored (xs := padL xs (p + 1)) hB (by rw [← hs]; exact hbk) (by rw [← hs, ← HP.out]; exact hown) p ((v + xs.getD p 0) % 1000000000))
      have HC := Lib.hid (show addAtC xs p v = (v + xs.getD p 0) / 1000000000 from rfl)
      have HL := Lib.hid (show addAtL xs p v = (padL xs (p + 1)).set p ((v + xs.getD p 0) % 1000000000) from rfl)
      clear hown hbk hs hlen hne
      generalize xs.getD p 0 = dg at hcell hdg HST HC HL
      have hdg0 := hdg.1
      have hdg1 := hdg.2
      clear hdg
      go_wp2
      go_ret
      exact ⟨ret_int HC.out.symm, by rw [HL.out]; exact ⟨HST.out.1.1, hb1.trans HST.out.1.2⟩⟩

/-! ### a number of the call's own with the blocks on which it leans -/
/-- the nat at block b; T: its block and that of its limbs -/
def NatOnX (K : NatK) (T : List Nat) (b : Nat) (xs : List Int) (w : World) : Prop :=
  ∃ v, w.heap[b]? = some (.cells (v :: K.rest).toArray K.ty (0, 0)) ∧ w.ownsRow 0 3 1 v xs.length (intsV xs) ∧ v.ownBlock ≠ some b ∧ T = b :: v.ownBlock.toList
/-- what a method leaves that keeps the blocks -/
def KeptX (K : NatK) (T : List Nat) (b : Nat) (xs : List Int) (w w' : World) : Prop := NatOnX K T b xs w' ∧ Chg T w w'
abbrev NatOn (T : List Nat) (b : Nat) (xs : List Int) (w : World) : Prop := NatOnX natK T b xs w
abbrev Kept (T : List Nat) (b : Nat) (xs : List Int) (w w' : World) : Prop := KeptX natK T b xs w w'
theorem NatOnX.lt {K : NatK} {T : List Nat} {b : Nat} {xs : List Int} {w : World} (h : NatOnX K T b xs w) : b < w.heap.size := by
  obtain ⟨v, hb, _⟩ := h
  exact (Array.getElem?_eq_some_iff.1 hb).1
theorem NatOnX.mem {K : NatK} {T : List Nat} {b : Nat} {xs : List Int} {w : World} (h : NatOnX K T b xs w) : b ∈ T := by
  obtain ⟨v, _, _, _, rfl⟩ := h
  simp
theorem NatOnX.at_ {K : NatK} {T : List Nat} {b : Nat} {xs : List Int} {w : World} (h : NatOnX K T b xs w) : At T (NatOnX K T b xs) w := by
  have hh := h
  obtain ⟨v, hb, ho, hne, rfl⟩ := h
  refine ⟨hh, fun g hg => ?_, fun w' hk => ⟨v, (hk b (by simp)).trans hb, own_stays ho fun g hg => hk g (by simp [hg]), hne, rfl⟩⟩
  rcases List.mem_cons.1 hg with rfl | hg
  · exact (Array.getElem?_eq_some_iff.1 hb).1
  · exact (own_lt ho (by simpa using hg)).2
theorem NatX.on {K : NatK} {B b : Nat} {xs : List Int} {w : World} (h : NatX K B b xs w) : ∃ T, NatOnX K T b xs w ∧ ∀ g ∈ T, B ≤ g := by
  obtain ⟨hB, v, hb, ho, hne⟩ := h
  refine ⟨_, ⟨v, hb, own_zero ho, hne, rfl⟩, fun g hg => ?_⟩
  rcases List.mem_cons.1 hg with rfl | hg
  · exact hB
  · exact (own_lt ho (by simpa using hg)).1
theorem own_raise {w : World} {base n : Nat} {e : TypeId} {v : Value} {xs : List Value} (h : w.ownsRow 0 e 1 v n xs) (hb : ∀ g, v.ownBlock = some g → base ≤ g) : w.ownsRow base e 1 v n xs := by
  obtain ⟨hl, h | ⟨g, cap, cur, rfl, _, r⟩⟩ := h
  · exact ⟨hl, .inl h⟩
  · exact ⟨hl, .inr ⟨g, cap, cur, rfl, hb g rfl, r⟩⟩
theorem NatOnX.natAt {K : NatK} {T : List Nat} {B b : Nat} {xs : List Int} {w : World} (h : NatOnX K T b xs w) (hT : ∀ g ∈ T, B ≤ g) : NatX K B b xs w := by
  obtain ⟨v, hb, ho, hne, rfl⟩ := h
  exact ⟨hT b (by simp), v, hb, own_raise ho fun g hg => hT g (by simp [hg]), hne⟩
theorem KeptX.left {K : NatK} {T : List Nat} {B b : Nat} {xs : List Int} {w w' : World} (h : KeptX K T b xs w w') (hB : B ≤ w.heap.size) (hT : ∀ g ∈ T, B ≤ g) : LeftX K B b xs w w' :=
  ⟨h.1.natAt hT, below_chg (Below.refl _ _) h.2 hB hT⟩
theorem KeptX.trans {K : NatK} {T : List Nat} {b : Nat} {xs ys : List Int} {w w1 w2 : World} (h : KeptX K T b xs w w1) (k : KeptX K T b ys w1 w2) : KeptX K T b ys w w2 := ⟨k.1, h.2.trans k.2⟩
theorem NatX.size {K : NatK} {B b : Nat} {xs : List Int} {w : World} (h : NatX K B b xs w) : B ≤ w.heap.size := by
  have := h.lt
  have := h.1
  omega
theorem NatOnX.put {K : NatK} {T : List Nat} {b : Nat} {v v' : Value} {ys : List Int} {w : World} (hb : w.heap[b]? = some (.cells (v :: K.rest).toArray K.ty (0, 0))) (hown : w.ownsRow 0 3 1 v' ys.length (intsV ys)) (hT : T = b :: v'.ownBlock.toList) :
    NatOnX K T b ys (w.setCell ⟨b, 0, none⟩ v') := by
  obtain ⟨_, u, h1, h2, h3⟩ := NatX.put (Nat.zero_le b) hb hown
  have e : u = v' := by
    have : (w.setCell ⟨b, 0, none⟩ v').heap[b]? = some (.cells (v' :: K.rest).toArray K.ty (0, 0)) := by simp [World.setCell, Array.getElem?_modify, hb]
    rw [this] at h1
    simpa using h1.symm
  subst e
  exact ⟨_, h1, h2, h3, hT⟩
/-- a store into the limbs -/
theorem NatOnX.stored {K : NatK} {b g cap : Nat} {xs : List Int} {w : World} (hb : w.heap[b]? = some (.cells (.slice (some ⟨g, 0, none⟩) xs.length cap :: K.rest).toArray K.ty (0, 0)))
    (hown : w.ownsRow 0 3 1 (.slice (some ⟨g, 0, none⟩) xs.length cap) xs.length (intsV xs)) (hne : (Value.slice (some ⟨g, 0, none⟩) xs.length cap).ownBlock ≠ some b) (p : Nat) (d : Int) :
    KeptX K [b, g] b (xs.set p d) w (w.setCell ⟨g, p, none⟩ (.int .i64 d)) ∧ (w.setCell ⟨g, p, none⟩ (.int .i64 d)).heap[b]? = some (.cells (.slice (some ⟨g, 0, none⟩) xs.length cap :: K.rest).toArray K.ty (0, 0)) ∧
      (w.setCell ⟨g, p, none⟩ (.int .i64 d)).ownsRow 0 3 1 (.slice (some ⟨g, 0, none⟩) (xs.set p d).length cap) (xs.set p d).length (intsV (xs.set p d)) := by
  have hgb : b ≠ g := fun e => hne (by simp [Value.ownBlock, e])
  obtain ⟨ho, hg⟩ := hown.stored p (.int .i64 d)
  have hb2 : (w.setCell ⟨g, p, none⟩ (.int .i64 d)).heap[b]? = some (.cells (.slice (some ⟨g, 0, none⟩) xs.length cap :: K.rest).toArray K.ty (0, 0)) := (Below.heap_setCell _ _ _ _ hgb).trans hb
  have hl : (xs.set p d).length = xs.length := List.length_set
  rw [intsV_set] at ho
  exact ⟨⟨⟨_, hb2, by rw [hl]; exact ho, hne, rfl⟩, (Chg.refl _ _).setCell (p := ⟨g, p, none⟩) (by simp) _⟩, hb2, by rw [hl]; exact ho⟩

set_option maxHeartbeats 1000000 in
set_option maxRecDepth 100000 in
theorem takeAt_on {K : NatK} (T : List Nat) (b : Nat) (xs : List Int) (p : Nat) (v : Int) (w : World) (hl : xs.length ≤ 1048576) (hp : p < xs.length) (hv0 : 0 ≤ v) (hv1 : v ≤ 1000000000000000000) (hd : DigN xs) (h : NatOnX K T b xs w) :
    Calls Tryz.prog 234 #[.pointer (some ⟨b, 0, none⟩), .int .i64 p, .int .i64 v] w fun e w' => e = .returned (.int .i64 (takeAtC xs p v)) ∧ KeptX K T b (takeAtL xs p v) w w' := by
  have hdg := hd.at_ p hp
  have hg : xs.getD p 0 = xs[p] := by rw [List.getD_eq_getElem?_getD, List.getElem?_eq_getElem hp]; rfl
  have HL := Lib.hid (show takeAtL xs p v = xs.set p ((xs[p] - v) % 1000000000) by rw [← hg]; rfl)
  have HC := Lib.hid (show takeAtC xs p v = -((xs[p] - v) / 1000000000) by rw [← hg]; rfl)
  clear hg hd
  obtain ⟨u, hbk, hown, hne, hT⟩ := h
  obtain ⟨g, cap, rfl, hg1, hg2, hg3⟩ := own_form hown (by omega)
  have hT2 : T = [b, g] := hT
  subst hT2
  have c1 : w.cell? ⟨b, 0, none⟩ = some (.slice (some ⟨g, 0, none⟩) xs.length cap) := NatX.cell hbk
  have hcell := hown.cellAt p (by omega)
  rw [intsV_at _ p hp] at hcell
  have hfr := hown.frozenAt p
  have hgb : ¬ b = g := fun e => hne (by simp [Value.ownBlock, e])
  obtain ⟨hs1, hk1, ho1⟩ := NatOnX.stored hbk hown hne p (xs[p] - v % 1000000000)
  have HS1 := Lib.hid hs1
  have hl1 : (xs.set p (xs[p] - v % 1000000000)).length = xs.length := List.length_set
  have HS2 := Lib.hid (NatOnX.stored (xs := xs.set p (xs[p] - v % 1000000000)) (by rw [hl1]; exact hk1) ho1 (by rw [hl1]; exact hne) p (xs[p] - v % 1000000000 + 1000000000))
  rw [List.set_set] at HS2
  clear hown hbk hne hs1 hk1 ho1 hl1 hT
  generalize xs[p] = dg at hcell hdg HS1 HS2 HC HL
  have hdg0 := hdg.1
  have hdg1 := hdg.2
  clear hdg
  by_cases hc : v % 1000000000 ≤ dg
  · have HC2 := Lib.hid (show takeAtC xs p v = v / 1000000000 by rw [HC.out]; omega)
    have HL2 := Lib.hid (show takeAtL xs p v = xs.set p (dg - v % 1000000000) by rw [HL.out]; congr 1; omega)
    clear HC HL
    go_enter Tryz.func234, Tryz.ntmps234
    go_wp2
    go_ret
    exact ⟨ret_int HC2.out.symm, by rw [HL2.out]; exact HS1.out⟩
  · have HC2 := Lib.hid (show takeAtC xs p v = v / 1000000000 + 1 by rw [HC.out]; omega)
    have HL2 := Lib.hid (show takeAtL xs p v = xs.set p (dg - v % 1000000000 + 1000000000) by rw [HL.out]; congr 1; omega)
    clear HC HL
    go_enter Tryz.func234, Tryz.ntmps234
    go_wp2
    go_ret
    exact ⟨ret_int HC2.out.symm, by rw [HL2.out]; exact HS1.out.trans HS2.out.1⟩

set_option maxHeartbeats 1000000 in
set_option maxRecDepth 100000 in
theorem natTrim_on {K : NatK} (T : List Nat) (b : Nat) (xs : List Int) (w : World) (hl : xs.length ≤ 1048576) (h : NatOnX K T b xs w) :
    Calls Tryz.prog 164 #[.pointer (some ⟨b, 0, none⟩)] w fun e w' => e = .returned (.tuple #[]) ∧ KeptX K T b (trimL xs) w w' := by
  have hTm := h.mem
  have HT0 := Lib.hid hTm
  clear hTm
  obtain ⟨v, hbk, hown, hne, hT⟩ := h
  obtain ⟨A, c, e1, hA⟩ := Row.of_own hown
  rw [intsV_length] at e1
  subst e1
  have c1 : w.cell? ⟨b, 0, none⟩ = some (.slice A xs.length c) := NatX.cell hbk
  have f1 : w.frozen? ⟨b, 0, none⟩ = false := Lib.frozen_of_heap hbk 0
  have hcap : xs.length ≤ c := by
    rcases hown.2 with ⟨h1, h2⟩ | ⟨g, cap, cur, e1, _, _, hn, _⟩
    · omega
    · injection e1 with _ _ e3; omega
  have HA := Lib.hid hA
  have HB := Lib.hid hbk
  have HO := Lib.hid hown
  have HTT : Hid (∀ k, T = b :: (Value.slice A k c).ownBlock.toList) := Lib.hid (by intro k; rw [hT]; cases A <;> rfl)
  clear hA hbk hown hne hT
  go_enter Tryz.func164, Tryz.ntmps164
  go_wp2
  go_loop [2] (fun n => ∃ k : Nat, k ≤ xs.length ∧ n = .int .i64 ((k : Int) - 1) ∧ Hid (∀ j (h : j < xs.length), k ≤ j → xs[j] = 0)) (fun n => (intOf n + 1).toNat)
  case atStart => exact ⟨xs.length, Nat.le_refl _, rfl, Lib.hid (fun j h hj => absurd h (by omega))⟩
  case round =>
    obtain ⟨k, hk, rfl, HZ⟩ := hrel
    by_cases h0 : 0 < k
    · obtain ⟨m, rfl⟩ : ∃ m, k = m + 1 := ⟨k - 1, by omega⟩
      have hlt : m < xs.length := by omega
      obtain ⟨a, rfl, _, _, hca⟩ := HA.out m _ (intsV_at xs m hlt)
      have hm1 : ((m + 1 : Nat) : Int) - 1 = (m : Int) := by omega
      rw [hm1]
      clear hm1 h0
      by_cases hz : xs[m] = 0
      · have hzb : (xs[m] == 0) = true := by rw [beq_iff_eq]; exact hz
        have HN : Hid (∀ j (h : j < xs.length), m ≤ j → xs[j] = 0) := Lib.hid (fun j h hj => by
          by_cases e : j = m
          · subst e; exact hz
          · exact HZ.out j h (by omega))
        clear hz
        go_wp2
        go_round
        case rel => exact ⟨m, by omega, rfl, HN⟩
        case measure => simp [intOf]
      · have hzb : (xs[m] == 0) = false := by rw [beq_eq_false_iff_ne]; exact hz
        have HT := Lib.hid (trim_prefix xs (m + 1) hk HZ.out (fun _ _ => hz))
        have HP := Lib.hid (NatOnX.put (ys := xs.take (m + 1)) (v' := .slice (some a) (m + 1) c) HB.out (by
          rw [← intsV_take, List.length_take, show min (m + 1) xs.length = m + 1 from by omega]
          exact own_take (m + 1) hk HO.out) (HTT.out _))
        clear hz
        go_wp2
        go_end0
        exact ⟨rfl, by rw [HT.out]; exact ⟨HP.out, (Chg.refl _ _).setCell (p := ⟨b, 0, none⟩) HT0.out _⟩⟩
    · obtain rfl : k = 0 := by omega
      have HT := Lib.hid (trim_prefix xs 0 hk HZ.out (fun _ h => absurd h (by omega)))
      have HP := Lib.hid (NatOnX.put (ys := xs.take 0) (v' := .slice A 0 c) HB.out (by
          rw [← intsV_take, List.length_take, Nat.zero_min]
          exact own_take 0 hk HO.out) (HTT.out _))
      go_wp2
      go_end0
      exact ⟨rfl, by rw [HT.out]; exact ⟨HP.out, (Chg.refl _ _).setCell (p := ⟨b, 0, none⟩) HT0.out _⟩⟩
theorem natTrim_any {K : NatK} (B b : Nat) (xs : List Int) (w : World) (hl : xs.length ≤ 1048576) (h : NatX K B b xs w) :
    Calls Tryz.prog 164 #[.pointer (some ⟨b, 0, none⟩)] w fun e w' => e = .returned (.tuple #[]) ∧ LeftX K B b (trimL xs) w w' := by
  obtain ⟨T, hT, hB⟩ := h.on
  refine (natTrim_on T b xs w hl hT).mono ?_
  rintro e w' ⟨rfl, hk⟩
  exact ⟨rfl, hk.left h.size hB⟩
end Go.Proofs.YtbpfabicampdkaaGreatDoor
