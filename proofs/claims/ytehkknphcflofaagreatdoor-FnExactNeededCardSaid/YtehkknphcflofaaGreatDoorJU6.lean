/-
  DecSpec4, RateStepS, RateHowS, RateOfS, RateOfS2, CurFindI, IntOkI, DecOkI, SignImplCmp, RateImpl, RateAtI, RatImplPlain, Div64
-/
import Derived.Deep.RegionHeld3
import Derived.Shelf.Abstract
import Derived.Deep.Cut
import Derived.Deep.CutBlock
import Derived.Laws.Bits64b
import Derived.Lib.BitFns
import Derived.Test.YtehkknphcflofaaGreatDoorJU5
namespace Go.Proofs.YtehkknphcflofaaGreatDoor
open Go.RowKit

set_option maxHeartbeats 4000000 in
set_option maxRecDepth 100000 in
theorem specDecRat_any (va : Value) (a : DI) (w : World) (hla : a.1.2.length ≤ 1048576) (ha : OwnD va a w) :
    Calls Tryz.prog 249 #[va] w (NewV (fun u => OwnQ u (ratD a)) w) := by
  have Ha := Lib.hid ha
  obtain ⟨Aa, ca, rfl⟩ := ownD_form ha
  have ODa := Lib.hid (show ∀ W, Below w.heap.size w W → OwnD (.agg #[.bool a.1.1, .slice Aa a.1.2.length ca, .int .i64 a.2]) a W from fun W hb => OwnD.below Ha.out hb)
  have OIa := Lib.hid (show ∀ W, Below w.heap.size w W → OwnI (.slice Aa a.1.2.length ca) a.1.2 W from fun W hb => ownD_open (ODa.out W hb))
  have OSa := Lib.hid (show ∀ W, Below w.heap.size w W → OwnS (.agg #[.bool a.1.1, .slice Aa a.1.2.length ca]) a.1 W from fun W hb => OwnS.mk (OIa.out W hb))
  clear ha
  have bb0 : Below w.heap.size w ((w.alloc (.cells #[.bool a.1.1, .slice Aa a.1.2.length ca, .int .i64 a.2] 52)).alloc (.cells #[.bool false, .slice none 0 0, .slice none 0 0] 36)) := below_al (below_al (Below.refl _ _) _) _
  have ka := (box_new w #[.bool a.1.1, .slice Aa a.1.2.length ca, .int .i64 a.2] 52).below (below_al (Below.refl _ _) (.cells #[.bool false, .slice none 0 0, .slice none 0 0] 36))
  have ko := (box_new (w.alloc (.cells #[.bool a.1.1, .slice Aa a.1.2.length ca, .int .i64 a.2] 52)) #[.bool false, .slice none 0 0, .slice none 0 0] 36)
  rw [show (w.alloc (.cells #[.bool a.1.1, .slice Aa a.1.2.length ca, .int .i64 a.2] 52)).heap.size = w.heap.size + 1 by simp] at ko
  have HKO := Lib.hid (ko.lt (w.heap.size + 1) (by simp))
  obtain ⟨Q, hQ⟩ : ∃ Q, ratD a = Q := ⟨_, rfl⟩
  have EQ0 := Lib.hid hQ
  rw [hQ]
  clear hQ
  go_enter Tryz.func249, Tryz.ntmps249
  have ka_c0 := ka.here.cell 0 _ rfl
  have ka_c1 := ka.here.cell 1 _ rfl
  have ka_c2 := ka.here.cell 2 _ rfl
  go_wp2_with fail
  clear ka_c0 ka_c1 ka_c2
  refine (specDecOk_any _ a _ hla (ODa.out _ bb0)).mono ?_
  rintro e w1 ⟨rfl, b1⟩
  have bb1 := Below.next bb0 b1
  replace ka := ka.below b1
  replace ko := ko.below b1
  by_cases ok : okD a = true
  · rw [ok]
    have HT := Lib.hid (ten_bd ok)
    have hl6 := (partsD ok).len
    have hzA : szS a.1 ≤ 1048576 := by unfold szS szI; omega
    have hzT := szS_ten a.2
    have EQ := Lib.hid (show makeQ a.1 (tenS a.2) = (Q, true) by rw [← EQ0.out]; exact HT.out.1)
    clear ok hl6
    have ka_c0 := ka.here.cell 0 _ rfl
    have ka_c1 := ka.here.cell 1 _ rfl
    have ka_c2 := ka.here.cell 2 _ rfl
    go_upto_region 3 with fail
    go_cut [3, 4] (fun s1 s2 wx => NewLocV 36 (fun v => OwnQ v Q) w1 s1 wx ∧ s2 = .bool true)
    case first =>
      have HC0 := Lib.hid (show Chg [] w1 w1.drew from (Chg.refl _ _).drew1)
      have HCr := Lib.hid (show Chg [] w1 w1 from Chg.refl _ _)
      have KL := Lib.hid (show ∀ W, Chg [] w1 W → W.cell? ⟨w.heap.size, 0, none⟩ = some (.bool a.1.1) ∧ W.cell? ⟨w.heap.size, 1, none⟩ = some (.slice Aa a.1.2.length ca) ∧ W.cell? ⟨w.heap.size, 2, none⟩ = some (.int .i64 a.2) ∧ Hid (Chg [] w1 W) from fun W hc => ⟨(ka.chg hc (fun i hi hm => by simp at hm)).here.cell 0 _ rfl, (ka.chg hc (fun i hi hm => by simp at hm)).here.cell 1 _ rfl, (ka.chg hc (fun i hi hm => by simp at hm)).here.cell 2 _ rfl, Lib.hid hc⟩)
      have BBF := Lib.hid (show ∀ W, Chg [] w1 W → Below w.heap.size w W from fun W hc => below_chg bb1 hc bb1.size (fun i hi => by simp at hi))
      clear ka_c0 ka_c1 ka_c2
      go_region_held3 (fun W => W.cell? ⟨w.heap.size, 0, none⟩ = some (.bool a.1.1) ∧ W.cell? ⟨w.heap.size, 1, none⟩ = some (.slice Aa a.1.2.length ca) ∧ W.cell? ⟨w.heap.size, 2, none⟩ = some (.int .i64 a.2) ∧ Hid (Chg [] w1 W))
        ((refine KL.out _ ?_; (first | exact HC3.out | exact HC2.out | exact HCr.out | exact HC0.out | exact HC3.out.drew1 | exact HC2.out.drew1 | exact HCr.out.drew1 | exact HC0.out.drew1 | exact HC3.out.trans (Chg.of_below (below_al (Below.refl _ _) _)) | exact HC2.out.trans (Chg.of_below (below_al (Below.refl _ _) _)) | exact HCr.out.trans (Chg.of_below (below_al (Below.refl _ _) _)) | exact HC0.out.trans (Chg.of_below (below_al (Below.refl _ _) _)) | exact (Chg.setNew HC3.out (by first | exact HC3.out.size | exact HC2.out.size | exact HCr.out.size | exact HC0.out.size) _) | exact (Chg.setNew (Chg.setNew HC3.out (by first | exact HC3.out.size | exact HC2.out.size | exact HCr.out.size | exact HC0.out.size) _) (by first | exact HC3.out.size | exact HC2.out.size | exact HCr.out.size | exact HC0.out.size) _) | exact (Chg.setNew (Chg.setNew (Chg.setNew HC3.out (by first | exact HC3.out.size | exact HC2.out.size | exact HCr.out.size | exact HC0.out.size) _) (by first | exact HC3.out.size | exact HC2.out.size | exact HCr.out.size | exact HC0.out.size) _) (by first | exact HC3.out.size | exact HC2.out.size | exact HCr.out.size | exact HC0.out.size) _) | fail)))
        (first
          | (go_at_call 194; (have hBB := (‹_ ∧ _ ∧ _ ∧ Hid (Chg [] w1 _)›).2.2.2); (with_reducible refine (l07Ten_any a.2 _).mono ?_); rintro e w2 ⟨ut, St, rfl, ot, lt, b2⟩; have HC2 := Lib.hid (hBB.out.trans (Chg.of_below b2)); obtain ⟨At_, ct, rfl⟩ := ownS_form ot.here; (first | (have early2 : At [w1.heap.size] (BoxAt w1.heap.size #[.bool false, .slice none 0 0, .slice none 0 0] 36) w2 := At.below (box_new w1.drew _ _) b2) | (have early2 := At.below (box_new _ #[.bool false, .slice none 0 0, .slice none 0 0] 36) b2) | (have early2 := At.below early1 b2) | skip); have HBZ2 := Lib.hid hBB.out.size; clear hBB)
          | (go_at_call 248; (have hBB := (‹_ ∧ _ ∧ _ ∧ Hid (Chg [] w1 _)›).2.2.2); (with_reducible refine ((specRatMake_any _ _ a.1 (tenS a.2) _ hzA hzT (OSa.out _ (BBF.out _ hBB.out)) (At.here (by first | exact ot | exact At.below ot (below_al (Below.refl _ _) _) | exact At.below (At.below ot (below_al (Below.refl _ _) _)) (below_al (Below.refl _ _) _) | exact At.move ot (fun _ _ => rfl) (Nat.le_refl _)))).mono fun _ _ h => postQb_isD EQ.out h).mono ?_); rintro e w3 ⟨uf, Sf, rfl, of, lf, b3⟩; have HC3 := Lib.hid (hBB.out.trans (Chg.of_below b3)); (have ot_3 := At.below (by first | exact ot | exact At.below ot (below_al (Below.refl _ _) _) | exact At.below (At.below ot (below_al (Below.refl _ _) _)) (below_al (Below.refl _ _) _) | exact At.move ot (fun _ _ => rfl) (Nat.le_refl _)) b3); obtain ⟨Af, cf, Bf, df, rfl⟩ := ownQ_form of.here; (first | have hbxg := At.below_lt (box_new _ #[.bool false, .slice none 0 0, .slice none 0 0] 36) b3 | have hbxg := At.below_lt early2 b3 | skip); (try (have hbxf := hbxg.1; have HGB := Lib.hid hbxg.2; clear hbxg)); (try (have cz0 := hbxf.here.cell 0 _ rfl; have fz0 := Lib.frozen_of_heap hbxf.here 0; have cz1 := hbxf.here.cell 1 _ rfl; have fz1 := Lib.frozen_of_heap hbxf.here 1; have cz2 := hbxf.here.cell 2 _ rfl; have fz2 := Lib.frozen_of_heap hbxf.here 2)); have HBZ3 := Lib.hid hBB.out.size; clear hBB))
      all_goals (go_wp2_with fail; go_meet; first | exact ⟨newLocV_last of lf HBZ3.out (below_of_chg HC3.out), rfl⟩ | exact ⟨newLocV_early3 hbxf.here of lf (by first | exact HC2.out.size | exact HCr.out.size | exact HC0.out.size) HGB.out (below_of_chg HC3.out), rfl⟩)
    rename World => w2
    clear ka_c0 ka_c1 ka_c2
    obtain ⟨⟨gy, csy, Sy, rfl, ky, oy, ny, ly, b2⟩, rfl⟩ := hcut
    obtain ⟨Ay, cy, By, dy, ey⟩ := ownQ_form oy.here
    injection ey with ey
    subst ey
    have bb2 := Below.next bb1 b2
    replace ka := ka.below b2
    replace ko := ko.below b2
    have HW := Lib.hid (newV_chg (φ := fun v => OwnQ v Q) (T := [w.heap.size + 1]) oy (fun i hi hm => by have := ly i (List.mem_cons_of_mem _ hi); have := HKO.out; have := b1.size; simp at hm; omega) (fun i hi => by simp at hi; omega) (fun i hi => by have := ly i (List.mem_cons_of_mem _ hi); have := HKO.out; have := b1.size; omega) bb2)
    have ky_c0 := ky.here.cell 0 _ rfl
    have ky_c1 := ky.here.cell 1 _ rfl
    have ky_c2 := ky.here.cell 2 _ rfl
    have cz0 := ko.here.cell 0 _ rfl
    have fz0 := Lib.frozen_of_heap ko.here 0
    have cz1 := ko.here.cell 1 _ rfl
    have fz1 := Lib.frozen_of_heap ko.here 1
    have cz2 := ko.here.cell 2 _ rfl
    have fz2 := Lib.frozen_of_heap ko.here 2
    clear oy ky ko ka
    go_wp2
    refine bodyPost_ret (v := .agg #[.bool _, .slice Ay _ cy, .slice By _ dy]) (by simp [results, Tryz.results249, go_sem, cz0, cz1, cz2]; exact ⟨rfl, rfl, rfl⟩) rfl ?_
    refine HW.out _ ?_
    repeat (first | exact Chg.refl _ _ | refine Chg.setCell ?_ (by simp) _)
  · have ok' : okD a = false := by simpa using ok
    have HV := Lib.hid (show Q = zeroQ from EQ0.out.symm.trans (rat_bad ok))
    rw [ok']
    clear ok ok' ka
    have cz0 := ko.here.cell 0 _ rfl
    have fz0 := Lib.frozen_of_heap ko.here 0
    have cz1 := ko.here.cell 1 _ rfl
    have fz1 := Lib.frozen_of_heap ko.here 1
    have cz2 := ko.here.cell 2 _ rfl
    have fz2 := Lib.frozen_of_heap ko.here 2
    go_wp2
    refine bodyPost_ret (v := .agg #[.bool false, .slice none 0 0, .slice none 0 0]) (by simp [results, Tryz.results249, go_sem, cz0, cz1, cz2]) rfl ?_
    rw [HV.out]
    first | exact newQ_zeroD bb1 | exact newQ_zeroD (below_set3 bb1 (by omega))
end Go.Proofs.YtehkknphcflofaaGreatDoor

namespace Go.Proofs.YtehkknphcflofaaGreatDoor
open Go.RowKit

theorem postn_isE {a b : Int} (h : a = b) {w w' : World} {e : Ending} (k : Postn a w e w') : Postn b w e w' := h ▸ k
theorem step_hit {l : List EI} {a b : ByteArray} {n : Nat} {x : EI} (h0 : 0 ≤ posE l a b) (h2 : l[n]? = some x) (h3 : atE l a b = n) : stepT l a b = ratD x.2.2 := by
  unfold stepT
  rw [if_pos h0, h3, h2]
theorem step_inv {l : List EI} {a b : ByteArray} {n : Nat} {x : EI} (hn : ¬ 0 ≤ posE l a b) (h2 : l[n]? = some x) (h3 : atE l b a = n) : stepT l a b = (divQ unitQ.1 (ratD x.2.2)).1 := by
  unfold stepT
  rw [if_neg hn, h3, h2]
theorem leg_inv {l : List EI} {a b : ByteArray} (hn : ¬ 0 ≤ posE l a b) (h : ¬ legT l a b = 0) : 0 ≤ posE l b a := by
  unfold legT at h
  rw [if_neg hn] at h
  split at h
  · assumption
  · exact absurd rfl h
theorem unitQ_szS : szQ unitQ.1 ≤ 1048576 := by unfold unitQ makeQ; split; exact lowQ_sz _ _ _; decide
theorem newVQ_chgS {R0 : QI} {S T : List Nat} {v : Value} {w W : World} (o : At S (OwnQ v R0) W) (hd : ∀ i ∈ S, i ∉ T) (hT : ∀ i ∈ T, w.heap.size ≤ i) (l : ∀ i ∈ S, w.heap.size ≤ i) (hW : Below w.heap.size w W) :
    ∀ W', Chg T W W' → NewV (fun u => OwnQ u R0) w (.returned v) W' :=
  fun _ hc => ⟨v, S, rfl, o.chg hc hd, fun i hi => ⟨l i hi, Nat.lt_of_lt_of_le (o.lt i hi) hc.size⟩, below_chg hW hc hW.size hT⟩
set_option maxHeartbeats 8000000 in
set_option maxRecDepth 100000 in
theorem l10Step_any (v : Value) (t : TI) (p q : ByteArray) (w : World) (hl : t.2.length ≤ 1099511627776) (hx : ∀ x ∈ t.2, x.2.2.1.2.length ≤ 1048576) (hg : ¬ legT t.2 p q = 0) (h : OwnTR w v t) :
    Calls Tryz.prog 191 #[v, .string p, .string q] w (NewV (fun u => OwnQ u (stepT t.2 p q)) w) := by
  obtain ⟨A, c, rfl, hr⟩ := ownTR_form h
  have HR := Lib.hid (show ∀ W, Below w.heap.size w W → OwnER W (.slice A t.2.length c) t.2 from fun W h => hr.below h)
  have HTR := Lib.hid (show ∀ W, Below w.heap.size w W → OwnTR W (.agg #[.string t.1, .slice A t.2.length c]) t from fun W h => ⟨_, rfl, hr.below h⟩)
  clear h hr
  obtain ⟨A', c', e', hc⟩ := HR.out w (Below.refl _ _)
  injection e' with e1 e2 e3
  subst e1
  clear e2 e3 c'
  have HC := Lib.hid hc
  clear hc
  have bb0 : Below w.heap.size w ((w.alloc (.cells #[.string t.1, .slice A t.2.length c] 25)).alloc (.cells #[.bool false, .slice none 0 0, .slice none 0 0] 36)) := below_al (below_al (Below.refl _ _) _) _
  have kt := (box_new w #[.string t.1, .slice A t.2.length c] 25).below (below_al (Below.refl _ _) (.cells #[.bool false, .slice none 0 0, .slice none 0 0] 36))
  have ko := (box_new (w.alloc (.cells #[.string t.1, .slice A t.2.length c] 25)) #[.bool false, .slice none 0 0, .slice none 0 0] 36)
  rw [show (w.alloc (.cells #[.string t.1, .slice A t.2.length c] 25)).heap.size = w.heap.size + 1 by simp] at ko
  obtain ⟨R, hR⟩ : ∃ R, stepT t.2 p q = R := ⟨_, rfl⟩
  have EQ := Lib.hid hR
  rw [hR]
  clear hR
  go_enter Tryz.func191, Tryz.ntmps191
  have kt_c0 := kt.here.cell 0 _ rfl
  have kt_c1 := kt.here.cell 1 _ rfl
  go_wp2_with fail
  clear kt_c0 kt_c1
  refine (l10At_any _ t.2 p q _ (by omega) (HR.out _ bb0)).mono ?_
  rintro e w1 ⟨rfl, b1⟩
  have hz1 : w.heap.size + 1 + 1 ≤ w1.heap.size := by have := b1.size; simp at this; omega
  have bb1 := Below.next bb0 b1
  replace kt := kt.below b1
  replace ko := ko.below b1
  by_cases h0 : 0 ≤ posE t.2 p q
  · obtain ⟨n, x, hpn, hxn, han⟩ := posE_at h0
    have HV := Lib.hid (EQ.out.symm.trans (step_hit h0 hxn han))
    rw [hpn]
    clear h0 hpn han EQ hg
    obtain ⟨a, ux, rfl, ha, hc0, hc1, hc2, hc3, hc4, hox⟩ := HC.out n x hxn
    obtain ⟨A1, c1, rfl⟩ := own_len hox
    have HOX := Lib.hid hox
    have hxl := hx x (List.mem_of_getElem? hxn)
    have HCC := Lib.hid (show ∀ W, Below w.heap.size w W → W.cell? ⟨(a.add (n * 5)).block, (a.add (n * 5)).off + 2, none⟩ = some (.bool x.2.2.1.1) ∧ W.cell? ⟨(a.add (n * 5)).block, (a.add (n * 5)).off + 3, none⟩ = some (.slice A1 x.2.2.1.2.length c1) ∧ W.cell? ⟨(a.add (n * 5)).block, (a.add (n * 5)).off + 4, none⟩ = some (.int .i64 x.2.2.2) from fun W hW => ⟨(cell_keep5 hW ha n 2).trans hc2, (cell_keep5 hW ha n 3).trans hc3, (cell_keep5 hW ha n 4).trans hc4⟩)
    have HOD := Lib.hid (show ∀ W, Below w.heap.size w W → OwnD (.agg #[.bool x.2.2.1.1, .slice A1 x.2.2.1.2.length c1, .int .i64 x.2.2.2]) x.2.2 W from fun W hW => OwnD.mk (own_below HOX.out hW))
    have hn0 : (0 : Int) ≤ (n : Int) := by omega
    have hnl := (List.getElem?_eq_some_iff.1 hxn).1
    have hn1 : (n : Int) < (t.2.length : Int) := by omega
    clear hc0 hc1 hc2 hc3 hc4 hox ha hxn hx
    have hd0 : decide ((0 : Int) ≤ (n : Int)) = true := decide_eq_true hn0
    obtain ⟨k2, k3, k4⟩ := HCC.out _ bb1
    have kt_c0 := kt.here.cell 0 _ rfl
    have kt_c1 := kt.here.cell 1 _ rfl
    go_wp2_with fail
    clear kt_c0 kt_c1
    refine (specDecRat_any _ x.2.2 _ hxl (HOD.out _ bb1)).mono ?_
    rintro e w2 ⟨uq, Sq, rfl, oq, lq, b2⟩
    obtain ⟨Aq, cq, Bq, dq, rfl⟩ := ownQ_form oq.here
    have bb2 := Below.next bb1 b2
    replace kt := kt.below b2
    replace ko := ko.below b2
    have HW := Lib.hid (newVQ_chgS (R0 := ratD x.2.2) (v := .agg #[.bool (ratD x.2.2).1.1, .slice Aq (ratD x.2.2).1.2.length cq, .slice Bq (ratD x.2.2).2.length dq]) (T := [w.heap.size + 1]) oq (fun i hi hm => by have := (lq i hi).1; simp at hm; omega) (fun i hi => by simp at hi; omega) (fun i hi => by have := (lq i hi).1; omega) bb2)
    have cz0 := ko.here.cell 0 _ rfl
    have fz0 := Lib.frozen_of_heap ko.here 0
    have cz1 := ko.here.cell 1 _ rfl
    have fz1 := Lib.frozen_of_heap ko.here 1
    have cz2 := ko.here.cell 2 _ rfl
    have fz2 := Lib.frozen_of_heap ko.here 2
    clear ko oq lq k2 k3 k4 kt
    go_wp2
    refine bodyPost_ret (v := .agg #[.bool (ratD x.2.2).1.1, .slice Aq (ratD x.2.2).1.2.length cq, .slice Bq (ratD x.2.2).2.length dq]) (by simp [results, Tryz.results191, go_sem, cz0, cz1, cz2]) rfl ?_
    rw [HV.out]
    refine HW.out _ ?_
    repeat (first | with_reducible exact Chg.refl _ _ | with_reducible refine Chg.setCell ?_ (by simp) _ | with_reducible refine Chg.trans ?_ (Chg.of_below (below_al (Below.refl _ _) _)))
  · have hd0 : decide (0 ≤ posE t.2 p q) = false := decide_eq_false h0
    obtain ⟨n, x, hpn, hxn, han⟩ := posE_at (leg_inv h0 hg)
    have HV := Lib.hid (EQ.out.symm.trans (step_inv h0 hxn han))
    have HPN := Lib.hid hpn
    clear hpn han EQ hg h0
    generalize posE t.2 p q = z at *
    obtain ⟨a, ux, rfl, ha, hc0, hc1, hc2, hc3, hc4, hox⟩ := HC.out n x hxn
    obtain ⟨A1, c1, rfl⟩ := own_len hox
    have HOX := Lib.hid hox
    have hxl := hx x (List.mem_of_getElem? hxn)
    have HCC := Lib.hid (show ∀ W, Below w.heap.size w W → W.cell? ⟨(a.add (n * 5)).block, (a.add (n * 5)).off + 2, none⟩ = some (.bool x.2.2.1.1) ∧ W.cell? ⟨(a.add (n * 5)).block, (a.add (n * 5)).off + 3, none⟩ = some (.slice A1 x.2.2.1.2.length c1) ∧ W.cell? ⟨(a.add (n * 5)).block, (a.add (n * 5)).off + 4, none⟩ = some (.int .i64 x.2.2.2) from fun W hW => ⟨(cell_keep5 hW ha n 2).trans hc2, (cell_keep5 hW ha n 3).trans hc3, (cell_keep5 hW ha n 4).trans hc4⟩)
    have HOD := Lib.hid (show ∀ W, Below w.heap.size w W → OwnD (.agg #[.bool x.2.2.1.1, .slice A1 x.2.2.1.2.length c1, .int .i64 x.2.2.2]) x.2.2 W from fun W hW => OwnD.mk (own_below HOX.out hW))
    have hn0 : (0 : Int) ≤ (n : Int) := by omega
    have hnl := (List.getElem?_eq_some_iff.1 hxn).1
    have hn1 : (n : Int) < (t.2.length : Int) := by omega
    clear hc0 hc1 hc2 hc3 hc4 hox ha hxn hx
    go_wp2_with fail
    refine ((specIntOf_any 1 _ (by decide) (by decide)).mono fun _ _ h => NewS.newV h).mono ?_
    rintro e w2 ⟨ux, Sx, rfl, ox, lx, b2⟩
    obtain ⟨Ax, cx, rfl⟩ := ownS_form ox.here
    have hz2 := b2.size
    have bb2 := Below.next bb1 b2
    replace kt := kt.below b2
    replace ko := ko.below b2
    go_wp2_with fail
    refine (specRatInt_any _ (ofZ 1) _ one_szR ox.here).mono ?_
    rintro e w3 ⟨uq, Sq, rfl, oq, lq, b3⟩
    obtain ⟨Aq, cq, Bq, dq, rfl⟩ := ownQ_form oq.here
    have hz3 := b3.size
    have bb3 := Below.next bb2 b3
    replace kt := kt.below b3
    replace ko := ko.below b3
    replace ox := ox.below b3
    clear ox lx hd0
    have ku := box_new (w3) #[.bool (makeQ (ofZ 1) (ofZ 1)).1.1.1, .slice Aq (makeQ (ofZ 1) (ofZ 1)).1.1.2.length cq, .slice Bq (makeQ (ofZ 1) (ofZ 1)).1.2.length dq] 36
    have alu := below_al (Below.refl (w3).heap.size (w3)) (.cells #[.bool (makeQ (ofZ 1) (ofZ 1)).1.1.1, .slice Aq (makeQ (ofZ 1) (ofZ 1)).1.1.2.length cq, .slice Bq (makeQ (ofZ 1) (ofZ 1)).1.2.length dq] 36)
    have bbu := Below.next bb3 alu
    replace kt := kt.below alu
    replace ko := ko.below alu
    replace oq := oq.below alu
    go_upto_region 5 with fail
    obtain ⟨w4, hw4⟩ : ∃ W, W = (w3.alloc (.cells #[.bool (makeQ (ofZ 1) (ofZ 1)).1.1.1, .slice Aq (makeQ (ofZ 1) (ofZ 1)).1.1.2.length cq, .slice Bq (makeQ (ofZ 1) (ofZ 1)).1.2.length dq] 36)) := ⟨_, rfl⟩
    have hz4 : w3.heap.size + 1 = w4.heap.size := by rw [hw4]; simp
    rw [← hw4] at kt ko ku oq bbu ⊢
    clear hw4
    have HB2 := Lib.hid bbu
    obtain ⟨k2, k3, k4⟩ := HCC.out _ bbu
    have kt_c0 := kt.here.cell 0 _ rfl
    have kt_c1 := kt.here.cell 1 _ rfl
    have ku_c0 := ku.here.cell 0 _ rfl
    have ku_c1 := ku.here.cell 1 _ rfl
    have ku_c2 := ku.here.cell 2 _ rfl
    go_cut [10] (fun s wx => NewLocV 36 (fun v => OwnQ v (divQ unitQ.1 (ratD x.2.2)).1) w4 s wx)
    case first =>
      have HC0 := Lib.hid (show Chg [] w4 w4.drew from (Chg.refl _ _).drew1)
      have HCr := Lib.hid (show Chg [] w4 w4 from Chg.refl _ _)
      have KL := Lib.hid (show ∀ W, Chg [] w4 W → W.cell? ⟨w.heap.size, 0, none⟩ = some (.string t.1) ∧ W.cell? ⟨w.heap.size, 1, none⟩ = some (.slice (some a) t.2.length c) ∧ W.cell? ⟨w3.heap.size, 0, none⟩ = some (.bool (makeQ (ofZ 1) (ofZ 1)).1.1.1) ∧ W.cell? ⟨w3.heap.size, 1, none⟩ = some (.slice Aq (makeQ (ofZ 1) (ofZ 1)).1.1.2.length cq) ∧ W.cell? ⟨w3.heap.size, 2, none⟩ = some (.slice Bq (makeQ (ofZ 1) (ofZ 1)).1.2.length dq) ∧ W.cell? ⟨(a.add (n * 5)).block, (a.add (n * 5)).off + 2, none⟩ = some (.bool x.2.2.1.1) ∧ W.cell? ⟨(a.add (n * 5)).block, (a.add (n * 5)).off + 3, none⟩ = some (.slice A1 x.2.2.1.2.length c1) ∧ W.cell? ⟨(a.add (n * 5)).block, (a.add (n * 5)).off + 4, none⟩ = some (.int .i64 x.2.2.2) ∧ Hid (Chg [] w4 W) from fun W hc => ⟨(kt.chg hc (fun i hi hm => by simp at hm)).here.cell 0 _ rfl, (kt.chg hc (fun i hi hm => by simp at hm)).here.cell 1 _ rfl, (ku.chg hc (fun i hi hm => by simp at hm)).here.cell 0 _ rfl, (ku.chg hc (fun i hi hm => by simp at hm)).here.cell 1 _ rfl, (ku.chg hc (fun i hi hm => by simp at hm)).here.cell 2 _ rfl, (HCC.out W (below_chg HB2.out hc HB2.out.size (fun i hi => by simp at hi))).1, (HCC.out W (below_chg HB2.out hc HB2.out.size (fun i hi => by simp at hi))).2.1, (HCC.out W (below_chg HB2.out hc HB2.out.size (fun i hi => by simp at hi))).2.2, Lib.hid hc⟩)
      have BBF := Lib.hid (show ∀ W, Chg [] w4 W → Below w.heap.size w W from fun W hc => below_chg bbu hc bbu.size (fun i hi => by simp at hi))
      clear kt_c0 kt_c1 ku_c0 ku_c1 ku_c2
      go_region_held3 (fun W => W.cell? ⟨w.heap.size, 0, none⟩ = some (.string t.1) ∧ W.cell? ⟨w.heap.size, 1, none⟩ = some (.slice (some a) t.2.length c) ∧ W.cell? ⟨w3.heap.size, 0, none⟩ = some (.bool (makeQ (ofZ 1) (ofZ 1)).1.1.1) ∧ W.cell? ⟨w3.heap.size, 1, none⟩ = some (.slice Aq (makeQ (ofZ 1) (ofZ 1)).1.1.2.length cq) ∧ W.cell? ⟨w3.heap.size, 2, none⟩ = some (.slice Bq (makeQ (ofZ 1) (ofZ 1)).1.2.length dq) ∧ W.cell? ⟨(a.add (n * 5)).block, (a.add (n * 5)).off + 2, none⟩ = some (.bool x.2.2.1.1) ∧ W.cell? ⟨(a.add (n * 5)).block, (a.add (n * 5)).off + 3, none⟩ = some (.slice A1 x.2.2.1.2.length c1) ∧ W.cell? ⟨(a.add (n * 5)).block, (a.add (n * 5)).off + 4, none⟩ = some (.int .i64 x.2.2.2) ∧ Hid (Chg [] w4 W))
        ((refine KL.out _ ?_; (first | exact HC7.out | exact HC6.out | exact HC5.out | exact HCr.out | exact HC0.out | exact HC7.out.drew1 | exact HC6.out.drew1 | exact HC5.out.drew1 | exact HCr.out.drew1 | exact HC0.out.drew1 | exact HC7.out.trans (Chg.of_below (below_al (Below.refl _ _) _)) | exact HC6.out.trans (Chg.of_below (below_al (Below.refl _ _) _)) | exact HC5.out.trans (Chg.of_below (below_al (Below.refl _ _) _)) | exact HCr.out.trans (Chg.of_below (below_al (Below.refl _ _) _)) | exact HC0.out.trans (Chg.of_below (below_al (Below.refl _ _) _)) | exact (Chg.setNew HC7.out (by first | exact HC7.out.size | exact HC6.out.size | exact HC5.out.size | exact HCr.out.size | exact HC0.out.size) _) | exact (Chg.setNew (Chg.setNew HC7.out (by first | exact HC7.out.size | exact HC6.out.size | exact HC5.out.size | exact HCr.out.size | exact HC0.out.size) _) (by first | exact HC7.out.size | exact HC6.out.size | exact HC5.out.size | exact HCr.out.size | exact HC0.out.size) _) | exact (Chg.setNew (Chg.setNew (Chg.setNew HC7.out (by first | exact HC7.out.size | exact HC6.out.size | exact HC5.out.size | exact HCr.out.size | exact HC0.out.size) _) (by first | exact HC7.out.size | exact HC6.out.size | exact HC5.out.size | exact HCr.out.size | exact HC0.out.size) _) (by first | exact HC7.out.size | exact HC6.out.size | exact HC5.out.size | exact HCr.out.size | exact HC0.out.size) _) | fail)))
        (first
          | (go_at_call 180; (have hBB := (‹_ ∧ _ ∧ _ ∧ _ ∧ _ ∧ _ ∧ _ ∧ _ ∧ Hid (Chg [] w4 _)›).2.2.2.2.2.2.2.2); (with_reducible refine ((l10At_any _ t.2 q p _ (by omega) (HR.out _ (BBF.out _ hBB.out))).mono fun _ _ h => postn_isE HPN.out h).mono ?_); rintro e w5 ⟨rfl, b5⟩; have HC5 := Lib.hid (hBB.out.trans (Chg.of_below b5)); (have oq_5 := At.below (by first | exact oq | exact At.below oq (below_al (Below.refl _ _) _) | exact At.below (At.below oq (below_al (Below.refl _ _) _)) (below_al (Below.refl _ _) _) | exact At.move oq (fun _ _ => rfl) (Nat.le_refl _) | exact At.below (At.move (w' := w4.drew) oq (fun _ _ => rfl) (Nat.le_refl _)) (below_al (Below.refl _ _) _)) b5); (first | (have early5 : At [w4.heap.size] (BoxAt w4.heap.size #[.bool false, .slice none 0 0, .slice none 0 0] 36) w5 := At.below (box_new w4.drew _ _) b5) | (have early5 := At.below (box_new _ #[.bool false, .slice none 0 0, .slice none 0 0] 36) b5) | (have early5 := At.below early4 b5) | skip); have HBZ5 := Lib.hid hBB.out.size; clear hBB)
          | (go_at_call 249; (have hBB := (‹_ ∧ _ ∧ _ ∧ _ ∧ _ ∧ _ ∧ _ ∧ _ ∧ Hid (Chg [] w4 _)›).2.2.2.2.2.2.2.2); (with_reducible refine (specDecRat_any _ x.2.2 _ hxl (HOD.out _ (BBF.out _ hBB.out))).mono ?_); rintro e w6 ⟨ud, Sd, rfl, od, ld, b6⟩; have HC6 := Lib.hid (hBB.out.trans (Chg.of_below b6)); (have oq_6 := At.below (by first | exact oq_5 | exact At.below oq_5 (below_al (Below.refl _ _) _) | exact At.below (At.below oq_5 (below_al (Below.refl _ _) _)) (below_al (Below.refl _ _) _) | exact At.move oq_5 (fun _ _ => rfl) (Nat.le_refl _) | exact At.below (At.move (w' := w4.drew) oq_5 (fun _ _ => rfl) (Nat.le_refl _)) (below_al (Below.refl _ _) _)) b6); obtain ⟨Ad, cd, Bd_, dd, rfl⟩ := ownQ_form od.here; (first | (have early6 : At [w4.heap.size] (BoxAt w4.heap.size #[.bool false, .slice none 0 0, .slice none 0 0] 36) w6 := At.below (box_new w4.drew _ _) b6) | (have early6 := At.below (box_new _ #[.bool false, .slice none 0 0, .slice none 0 0] 36) b6) | (have early6 := At.below early5 b6) | skip); have HBZ6 := Lib.hid hBB.out.size; clear hBB)
          | (go_at_call 115; (have hBB := (‹_ ∧ _ ∧ _ ∧ _ ∧ _ ∧ _ ∧ _ ∧ _ ∧ Hid (Chg [] w4 _)›).2.2.2.2.2.2.2.2); (with_reducible refine (specRatDiv_any _ _ unitQ.1 (ratD x.2.2) _ unitQ_szS (ratD_sz _) (At.here (by first | exact oq_6 | exact At.below oq_6 (below_al (Below.refl _ _) _) | exact At.below (At.below oq_6 (below_al (Below.refl _ _) _)) (below_al (Below.refl _ _) _) | exact At.move oq_6 (fun _ _ => rfl) (Nat.le_refl _) | exact At.below (At.move (w' := w4.drew) oq_6 (fun _ _ => rfl) (Nat.le_refl _)) (below_al (Below.refl _ _) _))) (At.here (by first | exact od | exact At.below od (below_al (Below.refl _ _) _) | exact At.below (At.below od (below_al (Below.refl _ _) _)) (below_al (Below.refl _ _) _) | exact At.move od (fun _ _ => rfl) (Nat.le_refl _) | exact At.below (At.move (w' := w4.drew) od (fun _ _ => rfl) (Nat.le_refl _)) (below_al (Below.refl _ _) _)))).mono ?_); rintro e w7 ⟨uv, Sv, rfl, ov, lv, b7⟩; have HC7 := Lib.hid (hBB.out.trans (Chg.of_below b7)); (have oq_7 := At.below (by first | exact oq_6 | exact At.below oq_6 (below_al (Below.refl _ _) _) | exact At.below (At.below oq_6 (below_al (Below.refl _ _) _)) (below_al (Below.refl _ _) _) | exact At.move oq_6 (fun _ _ => rfl) (Nat.le_refl _) | exact At.below (At.move (w' := w4.drew) oq_6 (fun _ _ => rfl) (Nat.le_refl _)) (below_al (Below.refl _ _) _)) b7); (have od_7 := At.below (by first | exact od | exact At.below od (below_al (Below.refl _ _) _) | exact At.below (At.below od (below_al (Below.refl _ _) _)) (below_al (Below.refl _ _) _) | exact At.move od (fun _ _ => rfl) (Nat.le_refl _) | exact At.below (At.move (w' := w4.drew) od (fun _ _ => rfl) (Nat.le_refl _)) (below_al (Below.refl _ _) _)) b7); obtain ⟨Av, cv, Bv, dv, rfl⟩ := ownQ_form ov.here; (first | have hbxg := At.below_lt (box_new _ #[.bool false, .slice none 0 0, .slice none 0 0] 36) b7 | have hbxg := At.below_lt early6 b7 | skip); (try (have hbxf := hbxg.1; have HGB := Lib.hid hbxg.2; clear hbxg)); (try (have cz0 := hbxf.here.cell 0 _ rfl; have fz0 := Lib.frozen_of_heap hbxf.here 0; have cz1 := hbxf.here.cell 1 _ rfl; have fz1 := Lib.frozen_of_heap hbxf.here 1; have cz2 := hbxf.here.cell 2 _ rfl; have fz2 := Lib.frozen_of_heap hbxf.here 2)); have HBZ7 := Lib.hid hBB.out.size; clear hBB))
      all_goals (go_wp2_with fail; go_meet; first | exact newLocV_last ov lv HBZ7.out (below_of_chg HC7.out) | exact newLocV_early3 hbxf.here ov lv (by first | exact HC6.out.size | exact HC5.out.size | exact HCr.out.size | exact HC0.out.size) HGB.out (below_of_chg HC7.out))
    rename World => w5
    clear kt_c0 kt_c1 ku_c0 ku_c1 ku_c2
    obtain ⟨gv, csv, Sv, rfl, kv, ov, nv, lv, b5⟩ := hcut
    obtain ⟨Av, cv, Bv, dv, ev⟩ := ownQ_form ov.here
    injection ev with ev
    subst ev
    have bb5 := Below.next bbu b5
    replace kt := kt.below b5
    replace ko := ko.below b5
    replace oq := oq.below b5
    replace ku := ku.below b5
    have hzl := b5.size
    have HW := Lib.hid (newVQ_chgS (R0 := (divQ unitQ.1 (ratD x.2.2)).1) (v := .agg #[.bool (divQ unitQ.1 (ratD x.2.2)).1.1.1, .slice Av (divQ unitQ.1 (ratD x.2.2)).1.1.2.length cv, .slice Bv (divQ unitQ.1 (ratD x.2.2)).1.2.length dv]) (T := [w.heap.size + 1]) ov (fun i hi hm => by have := (lv i (List.mem_cons_of_mem _ hi)).1; simp at hm; omega) (fun i hi => by simp at hi; omega) (fun i hi => by have := (lv i (List.mem_cons_of_mem _ hi)).1; omega) bb5)
    have cz0 := ko.here.cell 0 _ rfl
    have fz0 := Lib.frozen_of_heap ko.here 0
    have cz1 := ko.here.cell 1 _ rfl
    have fz1 := Lib.frozen_of_heap ko.here 1
    have cz2 := ko.here.cell 2 _ rfl
    have fz2 := Lib.frozen_of_heap ko.here 2
    have cp0 := kv.here.cell 0 _ rfl
    have cp1 := kv.here.cell 1 _ rfl
    have cp2 := kv.here.cell 2 _ rfl
    clear kv k2 k3 k4
    clear ko ov lv oq kt ku
    go_wp2
    refine bodyPost_ret (v := .agg #[.bool (divQ unitQ.1 (ratD x.2.2)).1.1.1, .slice Av (divQ unitQ.1 (ratD x.2.2)).1.1.2.length cv, .slice Bv (divQ unitQ.1 (ratD x.2.2)).1.2.length dv]) (by simp [results, Tryz.results191, go_sem, cz0, cz1, cz2]) rfl ?_
    rw [HV.out]
    refine HW.out _ ?_
    repeat (first | with_reducible exact Chg.refl _ _ | with_reducible refine Chg.setCell ?_ (by simp) _ | with_reducible refine Chg.trans ?_ (Chg.of_below (below_al (Below.refl _ _) _)))
end Go.Proofs.YtehkknphcflofaaGreatDoor

namespace Go.Proofs.YtehkknphcflofaaGreatDoor
open Go.RowKit

set_option maxHeartbeats 2000000 in
set_option maxRecDepth 100000 in
theorem l10Leg_any (v : Value) (t : TI) (p q : ByteArray) (w : World) (hl : t.2.length ≤ 1099511627776) (h : OwnTR w v t) :
    Calls Tryz.prog 105 #[v, .string p, .string q] w (Postn (legT t.2 p q) w) := by
  obtain ⟨A, c, rfl, hr⟩ := ownTR_form h
  have HR := Lib.hid (show ∀ W, Below w.heap.size w W → OwnER W (.slice A t.2.length c) t.2 from fun W h => hr.below h)
  have HTR := Lib.hid (show ∀ W, Below w.heap.size w W → OwnTR W (.agg #[.string t.1, .slice A t.2.length c]) t from fun W h => ⟨_, rfl, hr.below h⟩)
  clear h hr
  have bb0 : Below w.heap.size w (w.alloc (.cells #[.string t.1, .slice A t.2.length c] 25)) := below_al (Below.refl _ _) _
  have kt := (box_new w #[.string t.1, .slice A t.2.length c] 25)
  go_enter Tryz.func105, Tryz.ntmps105
  have kt_c0 := kt.here.cell 0 _ rfl
  have kt_c1 := kt.here.cell 1 _ rfl
  go_wp2_with fail
  clear kt_c0 kt_c1
  refine (l10At_any _ t.2 p q _ (by omega) (HR.out _ bb0)).mono ?_
  rintro e w1 ⟨rfl, b1⟩
  have bb1 := Below.next bb0 b1
  replace kt := kt.below b1
  have HE := Lib.hid (show legT t.2 p q = if 0 ≤ posE t.2 p q then 2 else if 0 ≤ posE t.2 q p then 3 else 0 from rfl)
  generalize posE t.2 p q = z at *
  by_cases h0 : 0 ≤ z
  · have HV := Lib.hid (show legT t.2 p q = 2 by rw [HE.out, if_pos h0])
    have hz : decide (0 ≤ z) = true := decide_eq_true h0
    clear kt
    go_wp2
    go_ret
    exact ⟨ret_int HV.out.symm, bb1⟩
  · have HE2 := Lib.hid (show legT t.2 p q = if 0 ≤ posE t.2 q p then 3 else 0 by rw [HE.out, if_neg h0])
    have hz : decide (0 ≤ z) = false := decide_eq_false h0
    clear HE
    have kt_c0 := kt.here.cell 0 _ rfl
    have kt_c1 := kt.here.cell 1 _ rfl
    go_wp2_with fail
    clear kt_c0 kt_c1
    refine (l10At_any _ t.2 q p _ (by omega) (HR.out _ bb1)).mono ?_
    rintro e w2 ⟨rfl, b2⟩
    have bb2 := Below.next bb1 b2
    replace kt := kt.below b2
    clear hz h0
    generalize posE t.2 q p = y at *
    by_cases h1 : 0 ≤ y
    · have HV := Lib.hid (show legT t.2 p q = 3 by rw [HE2.out, if_pos h1])
      have hz : decide (0 ≤ y) = true := decide_eq_true h1
      clear kt
      go_wp2
      go_ret
      exact ⟨ret_int HV.out.symm, bb2⟩
    · have HV := Lib.hid (show legT t.2 p q = 0 by rw [HE2.out, if_neg h1])
      have hz : decide (0 ≤ y) = false := decide_eq_false h1
      clear kt
      go_wp2
      go_ret
      exact ⟨ret_int HV.out.symm, bb2⟩
set_option maxHeartbeats 4000000 in
set_option maxRecDepth 100000 in
theorem specRateHow_any (v : Value) (t : TI) (p q : ByteArray) (w : World) (hl : t.2.length ≤ 1099511627776) (hx : ∀ x ∈ t.2, x.2.2.1.2.length ≤ 1048576) (h : OwnTR w v t) :
    Calls Tryz.prog 39 #[v, .string p, .string q] w (Postn (howT t p q) w) := by
  obtain ⟨A, c, rfl, hr⟩ := ownTR_form h
  have HR := Lib.hid (show ∀ W, Below w.heap.size w W → OwnER W (.slice A t.2.length c) t.2 from fun W h => hr.below h)
  have HTR := Lib.hid (show ∀ W, Below w.heap.size w W → OwnTR W (.agg #[.string t.1, .slice A t.2.length c]) t from fun W h => ⟨_, rfl, hr.below h⟩)
  clear h hr
  have bb0 : Below w.heap.size w (w.alloc (.cells #[.string t.1, .slice A t.2.length c] 25)) := below_al (Below.refl _ _) _
  have kt := (box_new w #[.string t.1, .slice A t.2.length c] 25)
  go_enter Tryz.func39, Tryz.ntmps39
  have kt_c0 := kt.here.cell 0 _ rfl
  have kt_c1 := kt.here.cell 1 _ rfl
  go_wp2_with fail
  clear kt_c0 kt_c1
  refine (specRatesOk_any _ t _ hl hx (HTR.out _ bb0)).mono ?_
  rintro e w1 ⟨rfl, b1⟩
  have bb1 := Below.next bb0 b1
  replace kt := kt.below b1
  clear hx
  by_cases ok0 : okT t = true
  · rw [ok0]
    have HOok0 := Lib.hid ok0
    clear ok0
    have kt_c0 := kt.here.cell 0 _ rfl
    have kt_c1 := kt.here.cell 1 _ rfl
    go_wp2_with fail
    clear kt_c0 kt_c1
    refine (specCurKnown_any p _).mono ?_
    rintro e w2 ⟨rfl, b2⟩
    have bb2 := Below.next bb1 b2
    replace kt := kt.below b2
    by_cases ok1 : knownC p = true
    · rw [ok1]
      have HOok1 := Lib.hid ok1
      clear ok1
      have kt_c0 := kt.here.cell 0 _ rfl
      have kt_c1 := kt.here.cell 1 _ rfl
      go_wp2_with fail
      clear kt_c0 kt_c1
      refine (specCurKnown_any q _).mono ?_
      rintro e w3 ⟨rfl, b3⟩
      have bb3 := Below.next bb2 b3
      replace kt := kt.below b3
      by_cases ok2 : knownC q = true
      · rw [ok2]
        have HOok2 := Lib.hid ok2
        clear ok2
        have HE := Lib.hid (show howT t p q = if p = q then 1 else if legT t.2 p q ≠ 0 then legT t.2 p q else if ¬ p = t.1 ∧ ¬ q = t.1 ∧ legT t.2 p t.1 ≠ 0 ∧ legT t.2 t.1 q ≠ 0 then 4 else 0 by unfold howT; rw [if_pos ⟨HOok0.out, HOok1.out, HOok2.out⟩])
        clear HOok0 HOok1 HOok2
        by_cases ab : p = q
        · have HV := Lib.hid (show howT t p q = 1 by rw [HE.out, if_pos ab])
          have e1 : (p.toList == q.toList) = true := by rw [ab]; exact beq_self_eq_true _
          clear ab kt
          go_wp2
          go_ret
          exact ⟨ret_int HV.out.symm, bb3⟩
        · have HE2 := Lib.hid (show howT t p q = _ from HE.out.trans (if_neg ab))
          have e1 := bytes_neC ab
          clear ab HE
          have kt_c0 := kt.here.cell 0 _ rfl
          have kt_c1 := kt.here.cell 1 _ rfl
          go_wp2_with fail
          clear kt_c0 kt_c1
          refine (l10Leg_any _ t p q _ hl (HTR.out _ bb3)).mono ?_
          rintro e w4 ⟨rfl, b4⟩
          have bb4 := Below.next bb3 b4
          replace kt := kt.below b4
          clear e1
          generalize legT t.2 p q = z at *
          by_cases hz : z = 0
          · have HE3 := Lib.hid (show howT t p q = _ from HE2.out.trans (if_neg (fun h => h hz)))
            subst hz
            clear HE2
            by_cases pa : p = t.1
            · have HV := Lib.hid (show howT t p q = 0 from HE3.out.trans (if_neg (fun h => h.1 pa)))
              have e1 : (p.toList == t.1.toList) = true := by rw [pa]; exact beq_self_eq_true _
              have e2 : (p.toList != t.1.toList) = false := by rw [bne, e1]; rfl
              have kt_c0 := kt.here.cell 0 _ rfl
              have kt_c1 := kt.here.cell 1 _ rfl
              clear pa kt
              go_wp2
              go_ret
              exact ⟨ret_int HV.out.symm, bb4⟩
            · have e1 := bytes_neC pa
              have e2 : (p.toList != t.1.toList) = true := by rw [bne, e1]; rfl
              have PA := Lib.hid pa
              clear pa
              by_cases qa : q = t.1
              · have HV := Lib.hid (show howT t p q = 0 from HE3.out.trans (if_neg (fun h => h.2.1 qa)))
                have e3 : (q.toList == t.1.toList) = true := by rw [qa]; exact beq_self_eq_true _
                have e4 : (q.toList != t.1.toList) = false := by rw [bne, e3]; rfl
                have kt_c0 := kt.here.cell 0 _ rfl
                have kt_c1 := kt.here.cell 1 _ rfl
                clear qa kt
                go_wp2
                go_ret
                exact ⟨ret_int HV.out.symm, bb4⟩
              · have e3 := bytes_neC qa
                have e4 : (q.toList != t.1.toList) = true := by rw [bne, e3]; rfl
                have QA := Lib.hid qa
                clear qa
                have kt_c0 := kt.here.cell 0 _ rfl
                have kt_c1 := kt.here.cell 1 _ rfl
                go_wp2_with fail
                clear kt_c0 kt_c1
                refine (l10Leg_any _ t p t.1 _ hl (HTR.out _ bb4)).mono ?_
                rintro e w5 ⟨rfl, b5⟩
                have bb5 := Below.next bb4 b5
                replace kt := kt.below b5
                clear e1 e2 e3 e4
                generalize legT t.2 p t.1 = y at *
                by_cases hy : y = 0
                · have HV := Lib.hid (show howT t p q = 0 from HE3.out.trans (if_neg (fun h => h.2.2.1 hy)))
                  subst hy
                  clear kt
                  go_wp2
                  go_ret
                  exact ⟨ret_int HV.out.symm, bb5⟩
                · have hy1 : (y != 0) = true := by simpa using hy
                  have HY := Lib.hid hy
                  clear hy
                  have kt_c0 := kt.here.cell 0 _ rfl
                  have kt_c1 := kt.here.cell 1 _ rfl
                  go_wp2_with fail
                  clear kt_c0 kt_c1
                  refine (l10Leg_any _ t t.1 q _ hl (HTR.out _ bb5)).mono ?_
                  rintro e w6 ⟨rfl, b6⟩
                  have bb6 := Below.next bb5 b6
                  replace kt := kt.below b6
                  clear hy1
                  generalize legT t.2 t.1 q = x at *
                  by_cases hx : x = 0
                  · have HV := Lib.hid (show howT t p q = 0 from HE3.out.trans (if_neg (fun h => h.2.2.2 hx)))
                    subst hx
                    clear kt
                    go_wp2
                    go_ret
                    exact ⟨ret_int HV.out.symm, bb6⟩
                  · have HV := Lib.hid (show howT t p q = 4 from HE3.out.trans (if_pos ⟨PA.out, QA.out, HY.out, hx⟩))
                    have hx1 : (x != 0) = true := by simpa using hx
                    clear hx kt
                    go_wp2
                    go_ret
                    exact ⟨ret_int HV.out.symm, bb6⟩
          · have HV := Lib.hid (show howT t p q = z from HE2.out.trans (if_pos hz))
            have hz1 : (z != 0) = true := by simpa using hz
            clear hz kt
            go_wp2
            go_ret
            exact ⟨ret_int HV.out.symm, bb4⟩
      · have ok2' : knownC q = false := by simpa using ok2
        have HV := Lib.hid (show howT t p q = 0 by unfold howT; rw [if_neg (fun h => ok2 h.2.2)])
        rw [ok2']
        clear ok2 ok2' kt
        go_wp2
        go_ret
        exact ⟨ret_int HV.out.symm, bb3⟩
    · have ok1' : knownC p = false := by simpa using ok1
      have HV := Lib.hid (show howT t p q = 0 by unfold howT; rw [if_neg (fun h => ok1 h.2.1)])
      rw [ok1']
      clear ok1 ok1' kt
      go_wp2
      go_ret
      exact ⟨ret_int HV.out.symm, bb2⟩
  · have ok0' : okT t = false := by simpa using ok0
    have HV := Lib.hid (show howT t p q = 0 by unfold howT; rw [if_neg (fun h => ok0 h.1)])
    rw [ok0']
    clear ok0 ok0' kt
    go_wp2
    go_ret
    exact ⟨ret_int HV.out.symm, bb1⟩
end Go.Proofs.YtehkknphcflofaaGreatDoor

namespace Go.Proofs.YtehkknphcflofaaGreatDoor
open Go.RowKit

set_option maxHeartbeats 4000000 in
set_option maxRecDepth 100000 in
theorem specRateOf_any (v : Value) (t : TI) (p q : ByteArray) (w : World) (hl : t.2.length ≤ 1099511627776) (hx : ∀ x ∈ t.2, x.2.2.1.2.length ≤ 1048576) (h : OwnTR w v t)
    (HST : ∀ (va : Value) (a b : ByteArray) (W : World), ¬ legT t.2 a b = 0 → OwnTR W va t → Calls Tryz.prog 191 #[va, .string a, .string b] W (NewV (fun u => OwnQ u (stepT t.2 a b)) W)) :
    Calls Tryz.prog 114 #[v, .string p, .string q] w (PostQb (rateT t p q).1 (rateT t p q).2 w) := by
  have HS := Lib.hid HST
  clear HST
  obtain ⟨A, c, rfl, hr⟩ := ownTR_form h
  have HR := Lib.hid (show ∀ W, Below w.heap.size w W → OwnER W (.slice A t.2.length c) t.2 from fun W h => hr.below h)
  have HTR := Lib.hid (show ∀ W, Below w.heap.size w W → OwnTR W (.agg #[.string t.1, .slice A t.2.length c]) t from fun W h => ⟨_, rfl, hr.below h⟩)
  clear h hr
  have bb0 : Below w.heap.size w ((w.alloc (.cells #[.string t.1, .slice A t.2.length c] 25)).alloc (.cells #[.bool false, .slice none 0 0, .slice none 0 0] 36)) := below_al (below_al (Below.refl _ _) _) _
  have kt := (box_new w #[.string t.1, .slice A t.2.length c] 25).below (below_al (Below.refl _ _) (.cells #[.bool false, .slice none 0 0, .slice none 0 0] 36))
  have ko := (box_new (w.alloc (.cells #[.string t.1, .slice A t.2.length c] 25)) #[.bool false, .slice none 0 0, .slice none 0 0] 36)
  rw [show (w.alloc (.cells #[.string t.1, .slice A t.2.length c] 25)).heap.size = w.heap.size + 1 by simp] at ko
  go_enter Tryz.func114, Tryz.ntmps114
  have kt_c0 := kt.here.cell 0 _ rfl
  have kt_c1 := kt.here.cell 1 _ rfl
  go_wp2_with fail
  clear kt_c0 kt_c1
  refine (specRateHow_any _ t p q _ hl hx (HTR.out _ bb0)).mono ?_
  rintro e w1 ⟨rfl, b1⟩
  have bb1 := Below.next bb0 b1
  replace kt := kt.below b1
  replace ko := ko.below b1
  have HE := Lib.hid (show rateT t p q = (if howT t p q = 1 then unitQ else if howT t p q = 2 ∨ howT t p q = 3 then (stepT t.2 p q, true) else if howT t p q = 4 then mulQ (stepT t.2 p t.1) (stepT t.2 t.1 q) else (zeroQ, false)) from rfl)
  have HLE := Lib.hid (howT_leg t p q)
  have HPI := Lib.hid (howT_piv t p q)
  clear hx
  generalize howT t p q = z at *
  by_cases z1 : z = 1
  · subst z1
    have HV := Lib.hid (show rateT t p q = unitQ from HE.out)
    clear HE kt
    go_wp2_with fail
    refine ((specIntOf_any 1 _ (by decide) (by decide)).mono fun _ _ h => NewS.newV h).mono ?_
    rintro e w2 ⟨ui, Si, rfl, oi, li, b2⟩
    have bb2 := Below.next bb1 b2
    replace ko := ko.below b2
    obtain ⟨Ai, ci, rfl⟩ := ownS_form oi.here
    go_wp2_with fail
    refine (specRatInt_any _ (ofZ 1) _ one_szR oi.here).mono ?_
    rintro e w3 ⟨uf, Sf, rfl, of, lf, b3⟩
    have bb3 := Below.next bb2 b3
    replace ko := ko.below b3
    replace oi := oi.below b3
    obtain ⟨Af, cf, Bf, df, rfl⟩ := ownQ_form of.here
    have HW := Lib.hid (newQb_at (r := w.heap.size + 1) (b := (makeQ (ofZ 1) (ofZ 1)).2) of lf (by have := b2.size; have := b2.size; have := (show w.heap.size + 2 ≤ w1.heap.size by have := ko.lt (w.heap.size + 1) (by simp); have := b1.size; simp at this; omega); omega) (by omega) bb3)
    have cz0 := ko.here.cell 0 _ rfl
    have fz0 := Lib.frozen_of_heap ko.here 0
    have cz1 := ko.here.cell 1 _ rfl
    have fz1 := Lib.frozen_of_heap ko.here 1
    have cz2 := ko.here.cell 2 _ rfl
    have fz2 := Lib.frozen_of_heap ko.here 2
    clear of ko oi
    go_wp2
    refine bodyPost_ret (v := .tuple #[.agg #[.bool _, .slice Af _ cf, .slice Bf _ df], .bool _]) (by simp [results, Tryz.results114, go_sem, cz0, cz1, cz2]; exact ⟨⟨rfl, rfl, rfl⟩, rfl⟩) rfl ?_
    rw [HV.out]
    exact HW.out
  have y1 : (z == (1 : Int)) = false := by simpa using z1
  by_cases z2 : z = 2
  · subst z2
    have HV := Lib.hid (show rateT t p q = (stepT t.2 p q, true) from HE.out)
    have HG := Lib.hid (HLE.out (.inl rfl))
    clear HE HLE HPI
    have kt_c0 := kt.here.cell 0 _ rfl
    have kt_c1 := kt.here.cell 1 _ rfl
    go_wp2_with fail
    clear kt_c0 kt_c1
    refine (HS.out _ p q _ HG.out (HTR.out _ bb1)).mono ?_
    rintro e w2 ⟨uf, Sf, rfl, of, lf, b2⟩
    have bb2 := Below.next bb1 b2
    replace kt := kt.below b2
    replace ko := ko.below b2
    obtain ⟨Af, cf, Bf, df, rfl⟩ := ownQ_form of.here
    have HW := Lib.hid (newQb_at (r := w.heap.size + 1) (b := true) of lf (by have := (show w.heap.size + 2 ≤ w1.heap.size by have := b1.size; simp at this; omega); omega) (by omega) bb2)
    have cz0 := ko.here.cell 0 _ rfl
    have fz0 := Lib.frozen_of_heap ko.here 0
    have cz1 := ko.here.cell 1 _ rfl
    have fz1 := Lib.frozen_of_heap ko.here 1
    have cz2 := ko.here.cell 2 _ rfl
    have fz2 := Lib.frozen_of_heap ko.here 2
    clear of ko kt
    go_wp2
    refine bodyPost_ret (v := .tuple #[.agg #[.bool _, .slice Af _ cf, .slice Bf _ df], .bool true]) (by simp [results, Tryz.results114, go_sem, cz0, cz1, cz2]; try exact ⟨rfl, rfl, rfl⟩) rfl ?_
    rw [HV.out]
    exact HW.out
  have y2 : (z == (2 : Int)) = false := by simpa using z2
  by_cases z3 : z = 3
  · subst z3
    have HV := Lib.hid (show rateT t p q = (stepT t.2 p q, true) from HE.out)
    have HG := Lib.hid (HLE.out (.inr rfl))
    clear HE HLE HPI
    have kt_c0 := kt.here.cell 0 _ rfl
    have kt_c1 := kt.here.cell 1 _ rfl
    go_wp2_with fail
    clear kt_c0 kt_c1
    refine (HS.out _ p q _ HG.out (HTR.out _ bb1)).mono ?_
    rintro e w2 ⟨uf, Sf, rfl, of, lf, b2⟩
    have bb2 := Below.next bb1 b2
    replace kt := kt.below b2
    replace ko := ko.below b2
    obtain ⟨Af, cf, Bf, df, rfl⟩ := ownQ_form of.here
    have HW := Lib.hid (newQb_at (r := w.heap.size + 1) (b := true) of lf (by have := (show w.heap.size + 2 ≤ w1.heap.size by have := b1.size; simp at this; omega); omega) (by omega) bb2)
    have cz0 := ko.here.cell 0 _ rfl
    have fz0 := Lib.frozen_of_heap ko.here 0
    have cz1 := ko.here.cell 1 _ rfl
    have fz1 := Lib.frozen_of_heap ko.here 1
    have cz2 := ko.here.cell 2 _ rfl
    have fz2 := Lib.frozen_of_heap ko.here 2
    clear of ko kt
    go_wp2
    refine bodyPost_ret (v := .tuple #[.agg #[.bool _, .slice Af _ cf, .slice Bf _ df], .bool true]) (by simp [results, Tryz.results114, go_sem, cz0, cz1, cz2]; try exact ⟨rfl, rfl, rfl⟩) rfl ?_
    rw [HV.out]
    exact HW.out
  have y3 : (z == (3 : Int)) = false := by simpa using z3
  by_cases z4 : z = 4
  · subst z4
    have HV := Lib.hid (show rateT t p q = mulQ (stepT t.2 p t.1) (stepT t.2 t.1 q) from HE.out)
    have HG := Lib.hid (HPI.out rfl)
    clear HE HLE HPI
    have HQ1 := Lib.hid (stepT_sz t.2 p t.1)
    have HQ2 := Lib.hid (stepT_sz t.2 t.1 q)
    have HK := Lib.hid (show w.heap.size + 2 ≤ w1.heap.size by have := b1.size; simp at this; omega)
    clear z1 z2 z3 y1 y2 y3
    have kt_c0 := kt.here.cell 0 _ rfl
    have kt_c1 := kt.here.cell 1 _ rfl
    go_wp2_with fail
    have HC0 := Lib.hid (show Chg [w.heap.size + 1] w1 w1.drew from (Chg.refl _ _).drew1)
    have HCr := Lib.hid (show Chg [w.heap.size + 1] w1 w1 from Chg.refl _ _)
    have KL := Lib.hid (show ∀ W, Chg [w.heap.size + 1] w1 W → W.cell? ⟨w.heap.size, 0, none⟩ = some (.string t.1) ∧ W.cell? ⟨w.heap.size, 1, none⟩ = some (.slice A t.2.length c) ∧ Hid (Chg [w.heap.size + 1] w1 W) from fun W hc => ⟨(kt.chg hc (fun i hi hm => by simp at hi hm; omega)).here.cell 0 _ rfl, (kt.chg hc (fun i hi hm => by simp at hi hm; omega)).here.cell 1 _ rfl, Lib.hid hc⟩)
    have BBF := Lib.hid (show ∀ W, Chg [w.heap.size + 1] w1 W → Below w.heap.size w W from fun W hc => below_chg bb1 hc bb1.size (fun i hi => by simp at hi; omega))
    clear kt_c0 kt_c1
    go_region_held3 (fun W => W.cell? ⟨w.heap.size, 0, none⟩ = some (.string t.1) ∧ W.cell? ⟨w.heap.size, 1, none⟩ = some (.slice A t.2.length c) ∧ Hid (Chg [w.heap.size + 1] w1 W))
      ((refine KL.out _ ?_; (first | exact HC4.out | exact HC3.out | exact HC2.out | exact HCr.out | exact HC0.out | exact HC4.out.drew1 | exact HC3.out.drew1 | exact HC2.out.drew1 | exact HCr.out.drew1 | exact HC0.out.drew1 | exact HC4.out.trans (Chg.of_below (below_al (Below.refl _ _) _)) | exact HC3.out.trans (Chg.of_below (below_al (Below.refl _ _) _)) | exact HC2.out.trans (Chg.of_below (below_al (Below.refl _ _) _)) | exact HCr.out.trans (Chg.of_below (below_al (Below.refl _ _) _)) | exact HC0.out.trans (Chg.of_below (below_al (Below.refl _ _) _)) | exact (Chg.setCell HC4.out (by simp) _) | exact (Chg.setCell (Chg.setCell HC4.out (by simp) _) (by simp) _) | exact (Chg.setCell (Chg.setCell (Chg.setCell HC4.out (by simp) _) (by simp) _) (by simp) _) | fail)))
      (first
        | (go_at_call 191; (have hBB := (‹_ ∧ _ ∧ Hid (Chg [w.heap.size + 1] w1 _)›).2.2); (with_reducible refine (HS.out _ p t.1 _ HG.out.1 (HTR.out _ (BBF.out _ hBB.out))).mono ?_); rintro e w2 ⟨ux, Sx, rfl, ox, lx, b2⟩; have HC2 := Lib.hid (hBB.out.trans (Chg.of_below b2)); (have ko_2 := At.below (by first | exact ko | exact At.below ko (below_al (Below.refl _ _) _) | exact At.below (At.below ko (below_al (Below.refl _ _) _)) (below_al (Below.refl _ _) _) | exact At.move ko (fun _ _ => rfl) (Nat.le_refl _)) b2); obtain ⟨Ax, cx, Bx, dx, rfl⟩ := ownQ_form ox.here; have HBZ2 := Lib.hid hBB.out.size; clear hBB)
        | (go_at_call 191; (have hBB := (‹_ ∧ _ ∧ Hid (Chg [w.heap.size + 1] w1 _)›).2.2); (with_reducible refine (HS.out _ t.1 q _ HG.out.2 (HTR.out _ (BBF.out _ hBB.out))).mono ?_); rintro e w3 ⟨uy, Sy, rfl, oy, ly, b3⟩; have HC3 := Lib.hid (hBB.out.trans (Chg.of_below b3)); (have ko_3 := At.below (by first | exact ko_2 | exact At.below ko_2 (below_al (Below.refl _ _) _) | exact At.below (At.below ko_2 (below_al (Below.refl _ _) _)) (below_al (Below.refl _ _) _) | exact At.move ko_2 (fun _ _ => rfl) (Nat.le_refl _)) b3); (have ox_3 := At.below (by first | exact ox | exact At.below ox (below_al (Below.refl _ _) _) | exact At.below (At.below ox (below_al (Below.refl _ _) _)) (below_al (Below.refl _ _) _) | exact At.move ox (fun _ _ => rfl) (Nat.le_refl _)) b3); obtain ⟨Ay, cy, By, dy, rfl⟩ := ownQ_form oy.here; have HBZ3 := Lib.hid hBB.out.size; clear hBB)
        | (go_at_call 117; (have hBB := (‹_ ∧ _ ∧ Hid (Chg [w.heap.size + 1] w1 _)›).2.2); (with_reducible refine (specRatMul_any _ _ (stepT t.2 p t.1) (stepT t.2 t.1 q) _ HQ1.out HQ2.out (At.here (by first | exact ox_3 | exact At.below ox_3 (below_al (Below.refl _ _) _) | exact At.below (At.below ox_3 (below_al (Below.refl _ _) _)) (below_al (Below.refl _ _) _) | exact At.move ox_3 (fun _ _ => rfl) (Nat.le_refl _))) (At.here (by first | exact oy | exact At.below oy (below_al (Below.refl _ _) _) | exact At.below (At.below oy (below_al (Below.refl _ _) _)) (below_al (Below.refl _ _) _) | exact At.move oy (fun _ _ => rfl) (Nat.le_refl _)))).mono ?_); rintro e w4 ⟨uf, Sf, rfl, of, lf, b4⟩; have HC4 := Lib.hid (hBB.out.trans (Chg.of_below b4)); (have ko_4 := At.below (by first | exact ko_3 | exact At.below ko_3 (below_al (Below.refl _ _) _) | exact At.below (At.below ko_3 (below_al (Below.refl _ _) _)) (below_al (Below.refl _ _) _) | exact At.move ko_3 (fun _ _ => rfl) (Nat.le_refl _)) b4); (have ox_4 := At.below (by first | exact ox_3 | exact At.below ox_3 (below_al (Below.refl _ _) _) | exact At.below (At.below ox_3 (below_al (Below.refl _ _) _)) (below_al (Below.refl _ _) _) | exact At.move ox_3 (fun _ _ => rfl) (Nat.le_refl _)) b4); (have oy_4 := At.below (by first | exact oy | exact At.below oy (below_al (Below.refl _ _) _) | exact At.below (At.below oy (below_al (Below.refl _ _) _)) (below_al (Below.refl _ _) _) | exact At.move oy (fun _ _ => rfl) (Nat.le_refl _)) b4); obtain ⟨Af, cf, Bf, df, rfl⟩ := ownQ_form of.here; have cz0 := ko_4.here.cell 0 _ rfl; have fz0 := Lib.frozen_of_heap ko_4.here 0; have cz1 := ko_4.here.cell 1 _ rfl; have fz1 := Lib.frozen_of_heap ko_4.here 1; have cz2 := ko_4.here.cell 2 _ rfl; have fz2 := Lib.frozen_of_heap ko_4.here 2; have HBZ4 := Lib.hid hBB.out.size; clear hBB))
    all_goals
      have bb4 := BBF.out _ HC4.out
      replace kt := kt.chg HC4.out (fun i hi hm => by simp at hi hm; omega)
      replace ko := ko_4
      have ox := ox_4
      have oy := oy_4
      have HW := Lib.hid (newQb_at (r := w.heap.size + 1) (b := (mulQ (stepT t.2 p t.1) (stepT t.2 t.1 q)).2) of lf (by have := HBZ4.out; have := HK.out; omega) (by omega) bb4)
      clear of ko kt ox oy
      go_wp2
      refine bodyPost_ret (v := .tuple #[.agg #[.bool _, .slice Af _ cf, .slice Bf _ df], .bool _]) (by simp [results, Tryz.results114, go_sem, cz0, cz1, cz2]; exact ⟨⟨rfl, rfl, rfl⟩, rfl⟩) rfl ?_
      rw [HV.out]
      exact HW.out
  have y4 : (z == (4 : Int)) = false := by simpa using z4
  have HV := Lib.hid (show rateT t p q = (zeroQ, false) by rw [HE.out, if_neg z1, if_neg (by omega), if_neg z4])
  clear HE kt z1 z2 z3 z4
  have cz0 := ko.here.cell 0 _ rfl
  have fz0 := Lib.frozen_of_heap ko.here 0
  have cz1 := ko.here.cell 1 _ rfl
  have fz1 := Lib.frozen_of_heap ko.here 1
  have cz2 := ko.here.cell 2 _ rfl
  have fz2 := Lib.frozen_of_heap ko.here 2
  clear ko
  go_wp2
  refine bodyPost_ret (v := .tuple #[.agg #[.bool false, .slice none 0 0, .slice none 0 0], .bool false]) (by simp [results, Tryz.results114, go_sem, cz0, cz1, cz2]) rfl ?_
  rw [HV.out]
  first | exact newQb_zero _ bb1 | exact newQb_zero _ (below_set3 bb1 (by omega))
end Go.Proofs.YtehkknphcflofaaGreatDoor

namespace Go.Proofs.YtehkknphcflofaaGreatDoor
open Go.RowKit

theorem specRateOf_all (v : Value) (t : TI) (p q : ByteArray) (w : World) (hl : t.2.length ≤ 1099511627776) (hx : ∀ x ∈ t.2, x.2.2.1.2.length ≤ 1048576) (h : OwnTR w v t) :
    Calls Tryz.prog 114 #[v, .string p, .string q] w (PostQb (rateT t p q).1 (rateT t p q).2 w) :=
  specRateOf_any v t p q w hl hx h fun va a b W hg ho => l10Step_any va t a b W hl hx hg ho
end Go.Proofs.YtehkknphcflofaaGreatDoor

namespace Go.Proofs.YtehkknphcflofaaGreatDoor
open Go.RowKit

def RowPostb (r : CR) (b : Bool) (w : World) (e : Ending) (w' : World) : Prop := e = .returned (.tuple #[.agg #[.string r.1, .string r.2.1, .int .i64 r.2.2.1, .int .i64 r.2.2.2], .bool b]) ∧ Below w.heap.size w w'
theorem knownI {r : CR} (h : r ∈ implT) : knownC r.1 = true := List.any_eq_true.2 ⟨r.1, List.mem_map_of_mem (implT_sub r h), decide_eq_true rfl⟩
theorem knownI_none {n : ByteArray} (h : ∀ r ∈ implT, ¬ r.1 = n) : knownC n = false := by
  cases e : knownC n with
  | false => rfl
  | true =>
    obtain ⟨r, hr, he, _⟩ := known_row e
    exact absurd he (h r (specT_sub r hr))
set_option maxHeartbeats 1000000 in
set_option maxRecDepth 100000 in
theorem implFind_any (n : ByteArray) (w : World) (ht : CurTab w) : Calls Tryz.prog 149 #[.string n] w (RowPostb (rowOf specT n) (knownC n) w) := by
  have kr := box_new w #[.string ⟨#[]⟩, .string ⟨#[]⟩, .int .i64 0, .int .i64 0] 180
  have b0 := below_al (Below.refl w.heap.size w) (.cells #[.string ⟨#[]⟩, .string ⟨#[]⟩, .int .i64 0, .int .i64 0] 180)
  have HT := Lib.hid (ht.below b0)
  obtain ⟨W0, hW0⟩ : ∃ W0, W0 = w.alloc (.cells #[.string ⟨#[]⟩, .string ⟨#[]⟩, .int .i64 0, .int .i64 0] 180) := ⟨_, rfl⟩
  rw [← hW0] at kr b0 HT
  have HW := Lib.hid hW0
  have HI := Lib.hid cur_index
  have HK := Lib.hid kr
  have B1 := Lib.hid b0
  clear hW0 kr b0 ht
  go_enter Tryz.func149, Tryz.ntmps149
  go_wp2
  rw [← HW.out]
  refine wp_load_mid 239 _ (by rfl) 1 0 (by rfl) (cellsT implT) _ HT.out.range Tryz.underlying239 (by rfl) curInfo ?_
  generalize hTA : (cellsT implT).toArray = TA at *
  clear hTA HW
  go_wp2
  go_loopw [7] (fun i wr => ∃ k : Nat, k ≤ 20 ∧ i = .int .i64 k ∧ Hid (∀ r ∈ implT.take k, ¬ r.1 = n) ∧ Below W0.heap.size W0 wr) (fun i _ => 20 - (intOf i).toNat)
  case atStart => exact ⟨0, Nat.zero_le _, rfl, Lib.hid (fun r hr => absurd hr (by simp)), Below.refl _ _⟩
  case round =>
    obtain ⟨k, hk, rfl, hp, hb⟩ := hrel
    by_cases hlt : k < 20
    · have hix := HI.out k hlt
      have HM := Lib.hid (show implT[k] ∈ implT from List.getElem_mem _)
      have HN := Lib.hid (fun h => take_next hp.out (show k < implT.length from hlt) h)
      generalize implT[k] = r at hix HM HN
      obtain ⟨c, m, p, q⟩ := r
      simp only [cellsC] at hix
      have hal := below_al (Below.refl wr.heap.size wr) (.cells #[.string c, .string m, .int .i64 p, .int .i64 q] 180)
      by_cases he : c = n
      · subst he
        have hA := Lib.hid (show rowOf specT c = _ from (rowOf_eq c).symm.trans (rowOf_mem implT_codes HM.out))
        have hA2 := Lib.hid (knownI HM.out)
        have ko := (HK.out.below hb).below hal
        have HB := Lib.hid (Below.next (Below.next B1.out hb) hal)
        have co0 := ko.here.cell 0 _ rfl
        have co1 := ko.here.cell 1 _ rfl
        have co2 := ko.here.cell 2 _ rfl
        have co3 := ko.here.cell 3 _ rfl
        have fo0 := Lib.frozen_of_heap ko.here 0
        have fo1 := Lib.frozen_of_heap ko.here 1
        have fo2 := Lib.frozen_of_heap ko.here 2
        have fo3 := Lib.frozen_of_heap ko.here 3
        clear HM HN hp ko hal
        go_wp2
        refine bodyPost_ret (v := .tuple #[.agg #[.string c, .string m, .int .i64 p, .int .i64 q], .bool true]) (by simp [results, Tryz.results149, go_sem, co0, co1, co2, co3]) rfl ?_
        unfold RowPostb
        rw [hA.out, show knownC c = true from hA2.out]
        exact ⟨rfl, below_set4 HB.out (Nat.le_refl _)⟩
      · have HN2 := Lib.hid (HN.out he)
        clear HM HN hp hal
        have hne := bytes_neC he
        go_wp2
        exact ⟨⟨k + 1, by omega, by go_num, HN2, hb.alloc (by have := hb.size; omega) _⟩, by simp [intOf]; omega⟩
    · obtain rfl : k = 20 := by omega
      have hnone : ∀ r ∈ implT, ¬ r.1 = n := by rw [← List.take_of_length_le (l := implT) (i := 20) (by decide)]; exact hp.out
      have hA := Lib.hid (show rowOf specT n = zeroC from (rowOf_eq n).symm.trans (rowOf_none hnone))
      have hA2 := Lib.hid (knownI_none hnone)
      have ko := HK.out.below hb
      have HB := Lib.hid (Below.next B1.out hb)
      have co0 := ko.here.cell 0 _ rfl
      have co1 := ko.here.cell 1 _ rfl
      have co2 := ko.here.cell 2 _ rfl
      have co3 := ko.here.cell 3 _ rfl
      have fo0 := Lib.frozen_of_heap ko.here 0
      have fo1 := Lib.frozen_of_heap ko.here 1
      have fo2 := Lib.frozen_of_heap ko.here 2
      have fo3 := Lib.frozen_of_heap ko.here 3
      clear hp ko hnone
      go_wp2
      refine bodyPost_ret (v := .tuple #[.agg #[.string ⟨#[]⟩, .string ⟨#[]⟩, .int .i64 0, .int .i64 0], .bool false]) (by simp [results, Tryz.results149, go_sem, co0, co1, co2, co3]) rfl ?_
      unfold RowPostb
      rw [hA.out, hA2.out]
      first | exact ⟨rfl, HB.out⟩ | exact ⟨rfl, below_set4 HB.out (Nat.le_refl _)⟩
set_option maxHeartbeats 400000 in
set_option maxRecDepth 100000 in
theorem implCurKnown_any (n : ByteArray) (w : World) (ht : CurTab w) : Calls Tryz.prog 101 #[.string n] w fun e w' => e = .returned (.bool (knownC n)) ∧ Below w.heap.size w w' := by
  go_enter Tryz.func101, Tryz.ntmps101
  go_wp2_with fail
  refine (implFind_any n _ ht).mono ?_
  rintro e w1 ⟨rfl, b1⟩
  go_wp2
  go_ret
  exact ⟨rfl, below_al b1 _⟩
end Go.Proofs.YtehkknphcflofaaGreatDoor

namespace Go.Proofs.YtehkknphcflofaaGreatDoor
open Go.RowKit

set_option maxHeartbeats 400000 in
set_option maxRecDepth 100000 in
theorem implIntOk_any (v : Value) (x : SI) (w : World) (hl : x.2.length ≤ 1048576) (h : RdS w v x) :
    Calls Tryz.prog 151 #[v] w fun e w' => e = .returned (.bool (okS x)) ∧ Below w.heap.size w w' := by
  obtain ⟨n, xs⟩ := x
  obtain ⟨u, rfl, hp⟩ := h
  obtain ⟨A, c, rfl⟩ := row_form hp
  rw [intsV_length] at hp ⊢
  simp only at hl hp ⊢
  have hbx : Below w.heap.size w (w.alloc (.cells #[.bool n, .slice A xs.length c] 30)) := below_al (Below.refl _ _) _
  have HV := Lib.hid (show okS (n, xs) = (natOkB xs && (!n || decide (0 < xs.length))) from rfl)
  by_cases ok : natOkB xs = true
  · rw [ok] at HV
    go_enter Tryz.func151, Tryz.ntmps151
    go_wp2_with fail
    refine (implNatOk_same _ xs 0 w.heap.size _ (by omega) (hp.below hbx (Nat.le_refl _))).mono ?_
    rintro e w1 ⟨rfl, rfl⟩
    rw [ok]
    by_cases hz : xs.length = 0
    · have hb : ((xs.length : Int) == 0) = true := by rw [hz]; rfl
      have hd : decide (0 < xs.length) = false := decide_eq_false (by omega)
      rw [hd] at HV
      clear hz hd
      cases n <;>
      · go_wp2
        go_ret
        exact ⟨ret_bool (by rw [HV.out]; rfl), hbx⟩
    · have hb : ((xs.length : Int) == 0) = false := by rw [beq_eq_false_iff_ne]; omega
      have hd : decide (0 < xs.length) = true := decide_eq_true (by omega)
      rw [hd] at HV
      clear hz hd
      cases n <;>
      · go_wp2
        go_ret
        exact ⟨ret_bool (by rw [HV.out]; rfl), hbx⟩
  · have ok' : natOkB xs = false := by simpa using ok
    rw [ok'] at HV
    clear ok
    go_enter Tryz.func151, Tryz.ntmps151
    go_wp2_with fail
    refine (implNatOk_same _ xs 0 w.heap.size _ (by omega) (hp.below hbx (Nat.le_refl _))).mono ?_
    rintro e w1 ⟨rfl, rfl⟩
    rw [ok']
    go_wp2
    go_ret
    exact ⟨ret_bool (by rw [HV.out]; rfl), hbx⟩

theorem Below.drew1 {B : Nat} {w w1 : World} (h : Below B w w1) : Below B w w1.drew := ⟨h.os, h.tape, h.output, h.size, h.block⟩
end Go.Proofs.YtehkknphcflofaaGreatDoor

namespace Go.Proofs.YtehkknphcflofaaGreatDoor
open Go.RowKit

set_option maxHeartbeats 1000000 in
set_option maxRecDepth 100000 in
theorem implDecOk_any (vd : Value) (d : DI) (w : World) (hl : d.1.2.length ≤ 1048576) (hd : OwnD vd d w) :
    Calls Tryz.prog 87 #[vd] w (Postb (okD d) w) := by
  have Hd := Lib.hid hd
  obtain ⟨Ad, cd, rfl⟩ := ownD_form hd
  have ODd := Lib.hid (show ∀ W, Below w.heap.size w W → OwnD (.agg #[.bool d.1.1, .slice Ad d.1.2.length cd, .int .i64 d.2]) d W from fun W hb => OwnD.below Hd.out hb)
  have OId := Lib.hid (show ∀ W, Below w.heap.size w W → OwnI (.slice Ad d.1.2.length cd) d.1.2 W from fun W hb => ownD_open (ODd.out W hb))
  have OSd := Lib.hid (show ∀ W, Below w.heap.size w W → OwnS (.agg #[.bool d.1.1, .slice Ad d.1.2.length cd]) d.1 W from fun W hb => OwnS.mk (OId.out W hb))
  clear hd
  have bb0 : Below w.heap.size w (w.alloc (.cells #[.bool d.1.1, .slice Ad d.1.2.length cd, .int .i64 d.2] 52)) := below_al (Below.refl _ _) _
  have kd := (box_new w #[.bool d.1.1, .slice Ad d.1.2.length cd, .int .i64 d.2] 52)
  go_enter Tryz.func87, Tryz.ntmps87
  have kd_c0 := kd.here.cell 0 _ rfl
  have kd_c1 := kd.here.cell 1 _ rfl
  have kd_c2 := kd.here.cell 2 _ rfl
  go_wp2_with fail
  clear kd_c0 kd_c1 kd_c2
  refine (implIntOk_any _ d.1 _ hl (OwnS.rd (OSd.out _ bb0))).mono ?_
  rintro e w1 ⟨rfl, b1⟩
  have bb1 := Below.next bb0 b1
  replace kd := kd.below b1
  by_cases ok1 : okS d.1 = true
  · rw [ok1]
    have HO1 := Lib.hid ok1
    clear ok1
    by_cases hs : d.1.2.length ≤ 6
    · have HV0 := Lib.hid (show okD d = decide (0 ≤ d.2 ∧ d.2 ≤ 30) by unfold okD; rw [HO1.out, decide_eq_true hs]; rfl)
      have hs6 : (d.1.2.length : Int) ≤ 6 := by omega
      have hs7 : ¬ (6 : Int) < (d.1.2.length : Int) := by omega
      clear hs
      have kd_c0 := kd.here.cell 0 _ rfl
      have kd_c1 := kd.here.cell 1 _ rfl
      have kd_c2 := kd.here.cell 2 _ rfl
      by_cases h0 : 0 ≤ d.2
      · have h0n : ¬ d.2 < 0 := by omega
        have HV := Lib.hid (show okD d = decide (d.2 ≤ 30) by rw [HV0.out, decide_eq_decide]; exact ⟨fun h => h.2, fun h => ⟨h0, h⟩⟩)
        go_wp2
        go_ret
        exact ⟨ret_bool HV.out.symm, bb1⟩
      · have h0n : d.2 < 0 := by omega
        have HV := Lib.hid (show okD d = false by rw [HV0.out]; exact decide_eq_false (fun h => h0 h.1))
        go_wp2
        go_ret
        exact ⟨ret_bool HV.out.symm, bb1⟩
    · have HV := Lib.hid (show okD d = false by unfold okD; rw [decide_eq_false hs, Bool.false_and, Bool.and_false])
      have hs6 : ¬ (d.1.2.length : Int) ≤ 6 := by omega
      have hs7 : (6 : Int) < (d.1.2.length : Int) := by omega
      clear hs
      have kd_c0 := kd.here.cell 0 _ rfl
      have kd_c1 := kd.here.cell 1 _ rfl
      have kd_c2 := kd.here.cell 2 _ rfl
      go_wp2
      go_ret
      exact ⟨ret_bool HV.out.symm, bb1⟩
  · have ok1' : okS d.1 = false := by simpa using ok1
    have HV := Lib.hid (show okD d = false by unfold okD; rw [ok1']; rfl)
    rw [ok1']
    clear ok1 ok1'
    go_wp2
    go_ret
    exact ⟨ret_bool HV.out.symm, bb1⟩
end Go.Proofs.YtehkknphcflofaaGreatDoor

namespace Go.Proofs.YtehkknphcflofaaGreatDoor
open Go.RowKit


set_option maxHeartbeats 2000000 in
set_option maxRecDepth 100000 in
theorem implIntCmp_any (vx vy : Value) (x y : SI) (w : World) (hlx : x.2.length ≤ 1048576) (hly : y.2.length ≤ 1048576) (hx : OwnS vx x w) (hy : OwnS vy y w) :
    Calls Tryz.prog 82 #[vx, vy] w fun e w' => e = .returned (.int .i64 (cmpS x y)) ∧ Below w.heap.size w w' := by
  obtain ⟨ux, rfl, hox⟩ := hx
  obtain ⟨uy, rfl, hoy⟩ := hy
  obtain ⟨Ax, cx, rfl⟩ := own_len hox
  obtain ⟨Ay, cy, rfl⟩ := own_len hoy
  have hbb : Below w.heap.size w ((w.alloc (.cells #[.bool x.1, .slice Ax x.2.length cx] 30)).alloc (.cells #[.bool y.1, .slice Ay y.2.length cy] 30)) := below_al (below_al (Below.refl _ _) _) _
  have kx := (box_new w #[.bool x.1, .slice Ax x.2.length cx] 30).below (below_al (Below.refl _ _) (.cells #[.bool y.1, .slice Ay y.2.length cy] 30))
  have ky := box_new (w.alloc (.cells #[.bool x.1, .slice Ax x.2.length cx] 30)) #[.bool y.1, .slice Ay y.2.length cy] 30
  rw [show (w.alloc (.cells #[.bool x.1, .slice Ax x.2.length cx] 30)).heap.size = w.heap.size + 1 by simp] at ky
  have ox := own_below hox hbb
  have oy := own_below hoy hbb
  have rdx := (OwnS.mk (x := x) (ownI_of ox)).rd
  clear hox hoy
  by_cases okx : okS x = true
  · go_enter Tryz.func82, Tryz.ntmps82
    go_wp2_with fail
    refine (implIntOk_any _ x _ hlx rdx).mono ?_
    rintro e w1 ⟨rfl, b1⟩
    rw [okx]
    have bb1 := Below.next hbb b1
    replace kx := kx.below b1
    replace ky := ky.below b1
    replace ox := own_below ox b1
    replace oy := own_below oy b1
    have cy0 := ky.here.cell 0 _ rfl
    have cy1 := ky.here.cell 1 _ rfl
    clear rdx
    go_wp2_with fail
    refine (implIntOk_any _ y w1 hly (OwnS.mk (x := y) (ownI_of oy)).rd).mono ?_
    rintro e w2 ⟨rfl, b2⟩
    have bb2 := Below.next bb1 b2
    replace kx := kx.below b2
    replace ky := ky.below b2
    replace ox := own_below ox b2
    replace oy := own_below oy b2
    clear cy0 cy1
    by_cases oky : okS y = true
    · rw [oky]
      have HV := Lib.hid (show cmpS x y = cmpI (valS x) (valS y) by unfold cmpS; rw [if_pos ⟨okx, oky⟩])
      have px := okS_parts okx
      have py := okS_parts oky
      have h0x := nval_ok px.1
      have h0y := nval_ok py.1
      have Dx := Lib.hid (natOk_parts px.1)
      have Dy := Lib.hid (natOk_parts py.1)
      have cx0 := kx.here.cell 0 _ rfl
      have cx1 := kx.here.cell 1 _ rfl
      have cy0 := ky.here.cell 0 _ rfl
      have cy1 := ky.here.cell 1 _ rfl
      have hpx : x.1 = true → 0 < nval x.2 := fun h => okS_pos okx (px.2 h)
      have hpy : y.1 = true → 0 < nval y.2 := fun h => okS_pos oky (py.2 h)
      have HPX := Lib.hid hpx
      have HPY := Lib.hid hpy
      have rx := (ownI_of ox).row
      have ry := (ownI_of oy).row
      clear px py hpx hpy okx oky kx ky
      cases hx1 : x.1 <;> cases hy1 : y.1
      · rw [hx1] at cx0
        rw [hy1] at cy0
        have HC := Lib.hid (show cmpI (valS x) (valS y) = cmpI (nval x.2) (nval y.2) by unfold valS; rw [hx1, hy1]; rfl)
        clear hx1 hy1
        go_wp2_with fail
        refine (compareLimbs_any _ _ x.2 y.2 0 _ 0 _ w2 (by omega) (by omega) ⟨Dx.out.1, Dx.out.2.2⟩ ⟨Dy.out.1, Dy.out.2.2⟩ rx ry).mono ?_
        rintro e w' ⟨rfl, q, rfl⟩
        go_wp2
        go_ret
        exact ⟨ret_int (by rw [HV.out, HC.out]), below_drewN bb2 q⟩
      · rw [hx1] at cx0
        rw [hy1] at cy0
        have HC := Lib.hid (show cmpI (valS x) (valS y) = 1 by have := HPY.out hy1; unfold valS; rw [hx1, hy1]; simp; unfold cmpI; rw [if_neg (by omega), if_pos (by omega)])
        clear hx1 hy1
        go_wp2
        go_ret
        exact ⟨ret_int (by rw [HV.out, HC.out]), bb2⟩
      · rw [hx1] at cx0
        rw [hy1] at cy0
        have HC := Lib.hid (show cmpI (valS x) (valS y) = -1 by have := HPX.out hx1; unfold valS; rw [hx1, hy1]; simp; unfold cmpI; rw [if_pos (by omega)])
        clear hx1 hy1
        go_wp2
        go_ret
        exact ⟨ret_int (by rw [HV.out, HC.out]), bb2⟩
      · rw [hx1] at cx0
        rw [hy1] at cy0
        have HC := Lib.hid (show cmpI (valS x) (valS y) = cmpI (nval y.2) (nval x.2) by unfold valS; rw [hx1, hy1]; simp; unfold cmpI; split <;> split <;> (try split) <;> (try split) <;> omega)
        clear hx1 hy1
        go_wp2_with fail
        refine (compareLimbs_any _ _ y.2 x.2 0 _ 0 _ w2 (by omega) (by omega) ⟨Dy.out.1, Dy.out.2.2⟩ ⟨Dx.out.1, Dx.out.2.2⟩ ry rx).mono ?_
        rintro e w' ⟨rfl, q, rfl⟩
        go_wp2
        go_ret
        exact ⟨ret_int (by rw [HV.out, HC.out]), below_drewN bb2 q⟩
    · have oky' : okS y = false := by simpa using oky
      have HV := Lib.hid (show cmpS x y = 0 by unfold cmpS; rw [if_neg (fun h => oky h.2)])
      rw [oky']
      clear oky kx ky
      go_wp2
      go_ret
      exact ⟨ret_int HV.out.symm, bb2⟩
  · have okx' : okS x = false := by simpa using okx
    have HV := Lib.hid (show cmpS x y = 0 by unfold cmpS; rw [if_neg (fun h => okx h.1)])
    clear okx
    go_enter Tryz.func82, Tryz.ntmps82
    go_wp2_with fail
    refine (implIntOk_any _ x _ hlx rdx).mono ?_
    rintro e w1 ⟨rfl, b1⟩
    rw [okx']
    have bb1 := Below.next hbb b1
    clear kx ky rdx
    go_wp2
    go_ret
    exact ⟨ret_int HV.out.symm, bb1⟩

set_option maxHeartbeats 400000 in
set_option maxRecDepth 100000 in
theorem implIntSign_any (v : Value) (x : SI) (w : World) (hl : x.2.length ≤ 1048576) (h : OwnS v x w) :
    Calls Tryz.prog 160 #[v] w fun e w' => e = .returned (.int .i64 (cmpS x zeroS)) ∧ Below w.heap.size w w' := by
  obtain ⟨u, rfl, ho⟩ := h
  obtain ⟨A, c, rfl⟩ := own_len ho
  have hbb : Below w.heap.size w (w.alloc (.cells #[.bool x.1, .slice A x.2.length c] 30)) := below_al (Below.refl _ _) _
  have hoB := OwnS.mk (x := x) (ownI_of (own_below ho hbb))
  have hz : OwnS (.agg #[.bool false, .slice none 0 0]) zeroS (w.alloc (.cells #[.bool x.1, .slice A x.2.length c] 30)) := ⟨_, rfl, World.ownsRow_nil _ _ _ _⟩
  go_enter Tryz.func160, Tryz.ntmps160
  go_wp2_with fail
  refine (implIntCmp_any _ _ x zeroS _ hl (by decide) hoB hz).mono ?_
  rintro e w1 ⟨rfl, b1⟩
  go_wp2
  go_ret
  exact ⟨rfl, Below.next hbb b1⟩

end Go.Proofs.YtehkknphcflofaaGreatDoor

namespace Go.Proofs.YtehkknphcflofaaGreatDoor
open Go.RowKit

set_option maxHeartbeats 2000000 in
set_option maxRecDepth 100000 in
theorem implRateOk_any (vr : Value) (r : EI) (w : World) (hl : r.2.2.1.2.length ≤ 1048576) (hr : OwnE vr r w) (ht : CurTab w) :
    Calls Tryz.prog 98 #[vr] w (Postb (okE r) w) := by
  have Hr := Lib.hid hr
  obtain ⟨Ar, cr, rfl⟩ := ownE_form hr
  have OEr := Lib.hid (show ∀ W, Below w.heap.size w W → OwnE (.agg #[.string r.1, .string r.2.1, .bool r.2.2.1.1, .slice Ar r.2.2.1.2.length cr, .int .i64 r.2.2.2]) r W from fun W hb => OwnE.below Hr.out hb)
  have OIr := Lib.hid (show ∀ W, Below w.heap.size w W → OwnI (.slice Ar r.2.2.1.2.length cr) r.2.2.1.2 W from fun W hb => ownE_open (OEr.out W hb))
  have ODr := Lib.hid (show ∀ W, Below w.heap.size w W → OwnD (.agg #[.bool r.2.2.1.1, .slice Ar r.2.2.1.2.length cr, .int .i64 r.2.2.2]) r.2.2 W from fun W hb => OwnD.mk (OIr.out W hb))
  have OSr := Lib.hid (show ∀ W, Below w.heap.size w W → OwnS (.agg #[.bool r.2.2.1.1, .slice Ar r.2.2.1.2.length cr]) r.2.2.1 W from fun W hb => OwnS.mk (OIr.out W hb))
  clear hr
  have HT := Lib.hid ht
  clear ht
  have bb0 : Below w.heap.size w (w.alloc (.cells #[.string r.1, .string r.2.1, .bool r.2.2.1.1, .slice Ar r.2.2.1.2.length cr, .int .i64 r.2.2.2] 54)) := below_al (Below.refl _ _) _
  have kr := (box_new w #[.string r.1, .string r.2.1, .bool r.2.2.1.1, .slice Ar r.2.2.1.2.length cr, .int .i64 r.2.2.2] 54)
  go_enter Tryz.func98, Tryz.ntmps98
  have kr_c0 := kr.here.cell 0 _ rfl
  have kr_c1 := kr.here.cell 1 _ rfl
  have kr_c2 := kr.here.cell 2 _ rfl
  have kr_c3 := kr.here.cell 3 _ rfl
  have kr_c4 := kr.here.cell 4 _ rfl
  go_wp2_with fail
  clear kr_c0 kr_c1 kr_c2 kr_c3 kr_c4
  refine (implCurKnown_any r.1 _ (HT.out.below bb0)).mono ?_
  rintro e w1 ⟨rfl, b1⟩
  have bb1 := Below.next bb0 b1
  replace kr := kr.below b1
  by_cases ok0 : knownC r.1 = true
  · rw [ok0]
    have HOok0 := Lib.hid ok0
    clear ok0
    have kr_c0 := kr.here.cell 0 _ rfl
    have kr_c1 := kr.here.cell 1 _ rfl
    have kr_c2 := kr.here.cell 2 _ rfl
    have kr_c3 := kr.here.cell 3 _ rfl
    have kr_c4 := kr.here.cell 4 _ rfl
    go_wp2_with fail
    clear kr_c0 kr_c1 kr_c2 kr_c3 kr_c4
    refine (implCurKnown_any r.2.1 _ (HT.out.below bb1)).mono ?_
    rintro e w2 ⟨rfl, b2⟩
    have bb2 := Below.next bb1 b2
    replace kr := kr.below b2
    by_cases ok1 : knownC r.2.1 = true
    · rw [ok1]
      have HOok1 := Lib.hid ok1
      clear ok1
      by_cases ne : r.1 = r.2.1
      · have HV := Lib.hid (show okE r = false by unfold okE; rw [HOok0.out, HOok1.out, decide_eq_false (fun h => h ne : ¬ ¬ r.1 = r.2.1)] <;> rfl)
        have kr_c0 := kr.here.cell 0 _ rfl
        have kr_c1 := kr.here.cell 1 _ rfl
        have kr_c2 := kr.here.cell 2 _ rfl
        have kr_c3 := kr.here.cell 3 _ rfl
        have kr_c4 := kr.here.cell 4 _ rfl
        rw [← ne] at kr_c1
        clear ne hl kr
        have hne1 : (r.1.toList == r.1.toList) = true := beq_self_eq_true _
        have hne2 : (r.1.toList != r.1.toList) = false := by rw [bne, hne1]; rfl
        go_wp2
        go_ret
        exact ⟨ret_bool HV.out.symm, bb2⟩
      · have hne1 := bytes_neC ne
        have hne2 : (r.1.toList != r.2.1.toList) = true := by rw [bne, hne1]; rfl
        have HNE := Lib.hid ne
        clear ne
        have kr_c0 := kr.here.cell 0 _ rfl
        have kr_c1 := kr.here.cell 1 _ rfl
        have kr_c2 := kr.here.cell 2 _ rfl
        have kr_c3 := kr.here.cell 3 _ rfl
        have kr_c4 := kr.here.cell 4 _ rfl
        go_wp2_with fail
        clear kr_c0 kr_c1 kr_c2 kr_c3 kr_c4
        refine (implDecOk_any _ r.2.2 _ hl (ODr.out _ bb2)).mono ?_
        rintro e w3 ⟨rfl, b3⟩
        have bb3 := Below.next bb2 b3
        replace kr := kr.below b3
        clear hne1 hne2
        by_cases ok2 : okD r.2.2 = true
        · rw [ok2]
          have HOok2 := Lib.hid ok2
          clear ok2
          have kr_c0 := kr.here.cell 0 _ rfl
          have kr_c1 := kr.here.cell 1 _ rfl
          have kr_c2 := kr.here.cell 2 _ rfl
          have kr_c3 := kr.here.cell 3 _ rfl
          have kr_c4 := kr.here.cell 4 _ rfl
          go_wp2_with fail
          clear kr_c0 kr_c1 kr_c2 kr_c3 kr_c4
          refine (implIntSign_any _ r.2.2.1 _ hl (OSr.out _ bb3)).mono ?_
          rintro e w4 ⟨rfl, b4⟩
          have bb4 := Below.next bb3 b4
          replace kr := kr.below b4
          have HZ : Hid (okE r = (decide (0 < cmpS r.2.2.1 zeroS) && decide (r.2.2.1.2.length ≤ 2))) := Lib.hid (by unfold okE; rw [HOok0.out, HOok1.out, HOok2.out, decide_eq_true HNE.out] <;> rfl)
          generalize cmpS r.2.2.1 zeroS = z at *
          by_cases ps : 0 < z
          · have HV := Lib.hid (show okE r = decide ((r.2.2.1.2.length : Int) ≤ 2) by rw [HZ.out, decide_eq_true ps, Bool.true_and, decide_eq_decide]; omega)
            have ps1 : decide (0 < z) = true := decide_eq_true ps
            have kr_c0 := kr.here.cell 0 _ rfl
            have kr_c1 := kr.here.cell 1 _ rfl
            have kr_c2 := kr.here.cell 2 _ rfl
            have kr_c3 := kr.here.cell 3 _ rfl
            have kr_c4 := kr.here.cell 4 _ rfl
            clear hl
            go_wp2
            go_ret
            exact ⟨ret_bool HV.out.symm, bb4⟩
          · have HV := Lib.hid (show okE r = false by rw [HZ.out, decide_eq_false ps, Bool.false_and])
            have ps1 : decide (0 < z) = false := decide_eq_false ps
            clear hl kr
            go_wp2
            go_ret
            exact ⟨ret_bool HV.out.symm, bb4⟩
        · have ok2' : okD r.2.2 = false := by simpa using ok2
          have HV := Lib.hid (show okE r = false by unfold okE; rw [HOok0.out, HOok1.out, decide_eq_true HNE.out, ok2'] <;> rfl)
          rw [ok2']
          clear ok2 ok2'
          go_wp2
          go_ret
          exact ⟨ret_bool HV.out.symm, bb3⟩
    · have ok1' : knownC r.2.1 = false := by simpa using ok1
      have HV := Lib.hid (show okE r = false by unfold okE; rw [HOok0.out, ok1'] <;> rfl)
      rw [ok1']
      clear ok1 ok1'
      go_wp2
      go_ret
      exact ⟨ret_bool HV.out.symm, bb2⟩
  · have ok0' : knownC r.1 = false := by simpa using ok0
    have HV := Lib.hid (show okE r = false by unfold okE; rw [ok0'] <;> rfl)
    rw [ok0']
    clear ok0 ok0'
    go_wp2
    go_ret
    exact ⟨ret_bool HV.out.symm, bb1⟩
set_option maxHeartbeats 1000000 in
set_option maxRecDepth 100000 in
theorem pairOf_any (vr : Value) (r : EI) (w : World) (hr : RdE w vr r) :
    Calls Tryz.prog 94 #[vr] w fun e w' => e = .returned (.agg #[.string r.1, .string r.2.1]) ∧ Below w.heap.size w w' := by
  obtain ⟨Ar, cr, rfl⟩ := rdE_form hr
  clear hr
  have bb0 : Below w.heap.size w ((w.alloc (.cells #[.string r.1, .string r.2.1, .bool r.2.2.1.1, .slice Ar r.2.2.1.2.length cr, .int .i64 r.2.2.2] 54)).alloc (.cells #[.string ⟨#[]⟩, .string ⟨#[]⟩] 132)) := below_al (below_al (Below.refl _ _) _) _
  have kr := (box_new w #[.string r.1, .string r.2.1, .bool r.2.2.1.1, .slice Ar r.2.2.1.2.length cr, .int .i64 r.2.2.2] 54).below (below_al (Below.refl _ _) (.cells #[.string ⟨#[]⟩, .string ⟨#[]⟩] 132))
  have ko := (box_new (w.alloc (.cells #[.string r.1, .string r.2.1, .bool r.2.2.1.1, .slice Ar r.2.2.1.2.length cr, .int .i64 r.2.2.2] 54)) #[.string ⟨#[]⟩, .string ⟨#[]⟩] 132)
  rw [show (w.alloc (.cells #[.string r.1, .string r.2.1, .bool r.2.2.1.1, .slice Ar r.2.2.1.2.length cr, .int .i64 r.2.2.2] 54)).heap.size = w.heap.size + 1 by simp] at ko
  go_enter Tryz.func94, Tryz.ntmps94
  have kr_c0 := kr.here.cell 0 _ rfl
  have kr_c1 := kr.here.cell 1 _ rfl
  have kr_c2 := kr.here.cell 2 _ rfl
  have kr_c3 := kr.here.cell 3 _ rfl
  have kr_c4 := kr.here.cell 4 _ rfl
  have cz0 := ko.here.cell 0 _ rfl
  have fz0 := Lib.frozen_of_heap ko.here 0
  have cz1 := ko.here.cell 1 _ rfl
  have fz1 := Lib.frozen_of_heap ko.here 1
  have HB := Lib.hid (show Below w.heap.size w ((w.alloc (.cells #[.string r.1, .string r.2.1, .bool r.2.2.1.1, .slice Ar r.2.2.1.2.length cr, .int .i64 r.2.2.2] 54)).alloc (.cells #[.string r.1, .string r.2.1] 132)) from below_al (below_al (Below.refl _ _) _) _)
  clear kr ko bb0
  go_wp2
  refine bodyPost_ret (v := .agg #[.string r.1, .string r.2.1]) (by simp [results, Tryz.results94, go_sem]) rfl ?_
  exact ⟨rfl, HB.out⟩
end Go.Proofs.YtehkknphcflofaaGreatDoor

namespace Go.Proofs.YtehkknphcflofaaGreatDoor
open Go.RowKit

set_option maxHeartbeats 2000000 in
set_option maxRecDepth 100000 in
theorem rateAt1_any (vr : Value) (r : EI) (B : Nat) (p q : ByteArray) (w : World) (hr : RdE w vr r) (kp : At [B] (BoxAt B #[.string p, .string q] 132) w) :
    Calls Tryz.prog 168 #[vr, .pointer (some ⟨B, 0, none⟩)] w (Postb (decide (r.1 = p) && decide (r.2.1 = q)) w) := by
  have HR := Lib.hid (show ∀ W, Below w.heap.size w W → RdE W vr r from fun W hb => hr.below hb)
  obtain ⟨Ar, cr, rfl⟩ := rdE_form hr
  clear hr
  have hB := kp.lt B (by simp)
  have bb0 : Below w.heap.size w (w.alloc (.cells #[.string r.1, .string r.2.1, .bool r.2.2.1.1, .slice Ar r.2.2.1.2.length cr, .int .i64 r.2.2.2] 54)) := below_al (Below.refl _ _) _
  have kr := (box_new w #[.string r.1, .string r.2.1, .bool r.2.2.1.1, .slice Ar r.2.2.1.2.length cr, .int .i64 r.2.2.2] 54)
  replace kp := kp.below bb0
  by_cases h1 : r.1 = p
  · have e1 : (r.1.toList == p.toList) = true := by rw [h1]; exact beq_self_eq_true _
    by_cases h2 : r.2.1 = q
    · have e2 : (r.2.1.toList == q.toList) = true := by rw [h2]; exact beq_self_eq_true _
      have HV := Lib.hid (show (decide (r.1 = p) && decide (r.2.1 = q)) = true by rw [decide_eq_true h1, decide_eq_true h2]; rfl)
      clear h1 h2
      go_enter Tryz.func168, Tryz.ntmps168
      have kr_c0 := kr.here.cell 0 _ rfl
      have kr_c1 := kr.here.cell 1 _ rfl
      have kr_c2 := kr.here.cell 2 _ rfl
      have kr_c3 := kr.here.cell 3 _ rfl
      have kr_c4 := kr.here.cell 4 _ rfl
      have kp_c0 := kp.here.cell 0 _ rfl
      have kp_c1 := kp.here.cell 1 _ rfl
      go_wp2_with fail
      have HC0 := Lib.hid (show Chg [] (w.alloc (.cells #[.string r.1, .string r.2.1, .bool r.2.2.1.1, .slice Ar r.2.2.1.2.length cr, .int .i64 r.2.2.2] 54)) (w.alloc (.cells #[.string r.1, .string r.2.1, .bool r.2.2.1.1, .slice Ar r.2.2.1.2.length cr, .int .i64 r.2.2.2] 54)).drew from (Chg.refl _ _).drew1)
      have HCr := Lib.hid (show Chg [] (w.alloc (.cells #[.string r.1, .string r.2.1, .bool r.2.2.1.1, .slice Ar r.2.2.1.2.length cr, .int .i64 r.2.2.2] 54)) (w.alloc (.cells #[.string r.1, .string r.2.1, .bool r.2.2.1.1, .slice Ar r.2.2.1.2.length cr, .int .i64 r.2.2.2] 54)) from Chg.refl _ _)
      have KL := Lib.hid (show ∀ W, Chg [] (w.alloc (.cells #[.string r.1, .string r.2.1, .bool r.2.2.1.1, .slice Ar r.2.2.1.2.length cr, .int .i64 r.2.2.2] 54)) W → W.cell? ⟨w.heap.size, 0, none⟩ = some (.string r.1) ∧ W.cell? ⟨w.heap.size, 1, none⟩ = some (.string r.2.1) ∧ W.cell? ⟨w.heap.size, 2, none⟩ = some (.bool r.2.2.1.1) ∧ W.cell? ⟨w.heap.size, 3, none⟩ = some (.slice Ar r.2.2.1.2.length cr) ∧ W.cell? ⟨w.heap.size, 4, none⟩ = some (.int .i64 r.2.2.2) ∧ W.cell? ⟨B, 0, none⟩ = some (.string p) ∧ W.cell? ⟨B, 1, none⟩ = some (.string q) ∧ Hid (Chg [] (w.alloc (.cells #[.string r.1, .string r.2.1, .bool r.2.2.1.1, .slice Ar r.2.2.1.2.length cr, .int .i64 r.2.2.2] 54)) W) from fun W hc => ⟨(kr.chg hc (fun i hi hm => by simp at hm)).here.cell 0 _ rfl, (kr.chg hc (fun i hi hm => by simp at hm)).here.cell 1 _ rfl, (kr.chg hc (fun i hi hm => by simp at hm)).here.cell 2 _ rfl, (kr.chg hc (fun i hi hm => by simp at hm)).here.cell 3 _ rfl, (kr.chg hc (fun i hi hm => by simp at hm)).here.cell 4 _ rfl, (kp.chg hc (fun i hi hm => by simp at hm)).here.cell 0 _ rfl, (kp.chg hc (fun i hi hm => by simp at hm)).here.cell 1 _ rfl, Lib.hid hc⟩)
      have BBF := Lib.hid (show ∀ W, Chg [] (w.alloc (.cells #[.string r.1, .string r.2.1, .bool r.2.2.1.1, .slice Ar r.2.2.1.2.length cr, .int .i64 r.2.2.2] 54)) W → Below w.heap.size w W from fun W hc => below_chg bb0 hc bb0.size (fun i hi => by simp at hi))
      clear kr_c0 kr_c1 kr_c2 kr_c3 kr_c4 kp_c0 kp_c1
      go_region_held3 (fun W => W.cell? ⟨w.heap.size, 0, none⟩ = some (.string r.1) ∧ W.cell? ⟨w.heap.size, 1, none⟩ = some (.string r.2.1) ∧ W.cell? ⟨w.heap.size, 2, none⟩ = some (.bool r.2.2.1.1) ∧ W.cell? ⟨w.heap.size, 3, none⟩ = some (.slice Ar r.2.2.1.2.length cr) ∧ W.cell? ⟨w.heap.size, 4, none⟩ = some (.int .i64 r.2.2.2) ∧ W.cell? ⟨B, 0, none⟩ = some (.string p) ∧ W.cell? ⟨B, 1, none⟩ = some (.string q) ∧ Hid (Chg [] (w.alloc (.cells #[.string r.1, .string r.2.1, .bool r.2.2.1.1, .slice Ar r.2.2.1.2.length cr, .int .i64 r.2.2.2] 54)) W))
        ((refine KL.out _ ?_; (first | exact HC1.out | exact HCr.out | exact HC0.out | exact HC1.out.drew1 | exact HCr.out.drew1 | exact HC0.out.drew1 | exact HC1.out.trans (Chg.of_below (below_al (Below.refl _ _) _)) | exact HCr.out.trans (Chg.of_below (below_al (Below.refl _ _) _)) | exact HC0.out.trans (Chg.of_below (below_al (Below.refl _ _) _)) | fail)))
        (first
          | (go_at_call 94; (have hBB := (‹_ ∧ _ ∧ _ ∧ _ ∧ _ ∧ _ ∧ _ ∧ Hid (Chg [] (w.alloc (.cells #[.string r.1, .string r.2.1, .bool r.2.2.1.1, .slice Ar r.2.2.1.2.length cr, .int .i64 r.2.2.2] 54)) _)›).2.2.2.2.2.2.2); (with_reducible refine (pairOf_any _ r _ (HR.out _ (BBF.out _ hBB.out))).mono ?_); rintro e w1 ⟨rfl, b1⟩; have HC1 := Lib.hid (hBB.out.trans (Chg.of_below b1)); have HBZ1 := Lib.hid hBB.out.size; clear hBB))
      have bb1 := BBF.out _ HC1.out
      replace kr := kr.chg HC1.out (fun i hi hm => by simp at hm)
      replace kp := kp.chg HC1.out (fun i hi hm => by simp at hm)
      clear HC0 HCr KL BBF kr kp
      go_wp2
      go_ret
      exact ⟨ret_bool HV.out.symm, bb1⟩
    · have e2 := bytes_neC h2
      have HV := Lib.hid (show (decide (r.1 = p) && decide (r.2.1 = q)) = false by rw [decide_eq_false h2, Bool.and_false])
      clear h1 h2
      go_enter Tryz.func168, Tryz.ntmps168
      have kr_c0 := kr.here.cell 0 _ rfl
      have kr_c1 := kr.here.cell 1 _ rfl
      have kr_c2 := kr.here.cell 2 _ rfl
      have kr_c3 := kr.here.cell 3 _ rfl
      have kr_c4 := kr.here.cell 4 _ rfl
      have kp_c0 := kp.here.cell 0 _ rfl
      have kp_c1 := kp.here.cell 1 _ rfl
      go_wp2_with fail
      have HC0 := Lib.hid (show Chg [] (w.alloc (.cells #[.string r.1, .string r.2.1, .bool r.2.2.1.1, .slice Ar r.2.2.1.2.length cr, .int .i64 r.2.2.2] 54)) (w.alloc (.cells #[.string r.1, .string r.2.1, .bool r.2.2.1.1, .slice Ar r.2.2.1.2.length cr, .int .i64 r.2.2.2] 54)).drew from (Chg.refl _ _).drew1)
      have HCr := Lib.hid (show Chg [] (w.alloc (.cells #[.string r.1, .string r.2.1, .bool r.2.2.1.1, .slice Ar r.2.2.1.2.length cr, .int .i64 r.2.2.2] 54)) (w.alloc (.cells #[.string r.1, .string r.2.1, .bool r.2.2.1.1, .slice Ar r.2.2.1.2.length cr, .int .i64 r.2.2.2] 54)) from Chg.refl _ _)
      have KL := Lib.hid (show ∀ W, Chg [] (w.alloc (.cells #[.string r.1, .string r.2.1, .bool r.2.2.1.1, .slice Ar r.2.2.1.2.length cr, .int .i64 r.2.2.2] 54)) W → W.cell? ⟨w.heap.size, 0, none⟩ = some (.string r.1) ∧ W.cell? ⟨w.heap.size, 1, none⟩ = some (.string r.2.1) ∧ W.cell? ⟨w.heap.size, 2, none⟩ = some (.bool r.2.2.1.1) ∧ W.cell? ⟨w.heap.size, 3, none⟩ = some (.slice Ar r.2.2.1.2.length cr) ∧ W.cell? ⟨w.heap.size, 4, none⟩ = some (.int .i64 r.2.2.2) ∧ W.cell? ⟨B, 0, none⟩ = some (.string p) ∧ W.cell? ⟨B, 1, none⟩ = some (.string q) ∧ Hid (Chg [] (w.alloc (.cells #[.string r.1, .string r.2.1, .bool r.2.2.1.1, .slice Ar r.2.2.1.2.length cr, .int .i64 r.2.2.2] 54)) W) from fun W hc => ⟨(kr.chg hc (fun i hi hm => by simp at hm)).here.cell 0 _ rfl, (kr.chg hc (fun i hi hm => by simp at hm)).here.cell 1 _ rfl, (kr.chg hc (fun i hi hm => by simp at hm)).here.cell 2 _ rfl, (kr.chg hc (fun i hi hm => by simp at hm)).here.cell 3 _ rfl, (kr.chg hc (fun i hi hm => by simp at hm)).here.cell 4 _ rfl, (kp.chg hc (fun i hi hm => by simp at hm)).here.cell 0 _ rfl, (kp.chg hc (fun i hi hm => by simp at hm)).here.cell 1 _ rfl, Lib.hid hc⟩)
      have BBF := Lib.hid (show ∀ W, Chg [] (w.alloc (.cells #[.string r.1, .string r.2.1, .bool r.2.2.1.1, .slice Ar r.2.2.1.2.length cr, .int .i64 r.2.2.2] 54)) W → Below w.heap.size w W from fun W hc => below_chg bb0 hc bb0.size (fun i hi => by simp at hi))
      clear kr_c0 kr_c1 kr_c2 kr_c3 kr_c4 kp_c0 kp_c1
      go_region_held3 (fun W => W.cell? ⟨w.heap.size, 0, none⟩ = some (.string r.1) ∧ W.cell? ⟨w.heap.size, 1, none⟩ = some (.string r.2.1) ∧ W.cell? ⟨w.heap.size, 2, none⟩ = some (.bool r.2.2.1.1) ∧ W.cell? ⟨w.heap.size, 3, none⟩ = some (.slice Ar r.2.2.1.2.length cr) ∧ W.cell? ⟨w.heap.size, 4, none⟩ = some (.int .i64 r.2.2.2) ∧ W.cell? ⟨B, 0, none⟩ = some (.string p) ∧ W.cell? ⟨B, 1, none⟩ = some (.string q) ∧ Hid (Chg [] (w.alloc (.cells #[.string r.1, .string r.2.1, .bool r.2.2.1.1, .slice Ar r.2.2.1.2.length cr, .int .i64 r.2.2.2] 54)) W))
        ((refine KL.out _ ?_; (first | exact HC1.out | exact HCr.out | exact HC0.out | exact HC1.out.drew1 | exact HCr.out.drew1 | exact HC0.out.drew1 | exact HC1.out.trans (Chg.of_below (below_al (Below.refl _ _) _)) | exact HCr.out.trans (Chg.of_below (below_al (Below.refl _ _) _)) | exact HC0.out.trans (Chg.of_below (below_al (Below.refl _ _) _)) | fail)))
        (first
          | (go_at_call 94; (have hBB := (‹_ ∧ _ ∧ _ ∧ _ ∧ _ ∧ _ ∧ _ ∧ Hid (Chg [] (w.alloc (.cells #[.string r.1, .string r.2.1, .bool r.2.2.1.1, .slice Ar r.2.2.1.2.length cr, .int .i64 r.2.2.2] 54)) _)›).2.2.2.2.2.2.2); (with_reducible refine (pairOf_any _ r _ (HR.out _ (BBF.out _ hBB.out))).mono ?_); rintro e w1 ⟨rfl, b1⟩; have HC1 := Lib.hid (hBB.out.trans (Chg.of_below b1)); have HBZ1 := Lib.hid hBB.out.size; clear hBB))
      have bb1 := BBF.out _ HC1.out
      replace kr := kr.chg HC1.out (fun i hi hm => by simp at hm)
      replace kp := kp.chg HC1.out (fun i hi hm => by simp at hm)
      clear HC0 HCr KL BBF kr kp
      go_wp2
      go_ret
      exact ⟨ret_bool HV.out.symm, bb1⟩
  · have e1 := bytes_neC h1
    have HV := Lib.hid (show (decide (r.1 = p) && decide (r.2.1 = q)) = false by rw [decide_eq_false h1, Bool.false_and])
    clear h1
    go_enter Tryz.func168, Tryz.ntmps168
    have kr_c0 := kr.here.cell 0 _ rfl
    have kr_c1 := kr.here.cell 1 _ rfl
    have kr_c2 := kr.here.cell 2 _ rfl
    have kr_c3 := kr.here.cell 3 _ rfl
    have kr_c4 := kr.here.cell 4 _ rfl
    have kp_c0 := kp.here.cell 0 _ rfl
    have kp_c1 := kp.here.cell 1 _ rfl
    go_wp2_with fail
    have HC0 := Lib.hid (show Chg [] (w.alloc (.cells #[.string r.1, .string r.2.1, .bool r.2.2.1.1, .slice Ar r.2.2.1.2.length cr, .int .i64 r.2.2.2] 54)) (w.alloc (.cells #[.string r.1, .string r.2.1, .bool r.2.2.1.1, .slice Ar r.2.2.1.2.length cr, .int .i64 r.2.2.2] 54)).drew from (Chg.refl _ _).drew1)
    have HCr := Lib.hid (show Chg [] (w.alloc (.cells #[.string r.1, .string r.2.1, .bool r.2.2.1.1, .slice Ar r.2.2.1.2.length cr, .int .i64 r.2.2.2] 54)) (w.alloc (.cells #[.string r.1, .string r.2.1, .bool r.2.2.1.1, .slice Ar r.2.2.1.2.length cr, .int .i64 r.2.2.2] 54)) from Chg.refl _ _)
    have KL := Lib.hid (show ∀ W, Chg [] (w.alloc (.cells #[.string r.1, .string r.2.1, .bool r.2.2.1.1, .slice Ar r.2.2.1.2.length cr, .int .i64 r.2.2.2] 54)) W → W.cell? ⟨w.heap.size, 0, none⟩ = some (.string r.1) ∧ W.cell? ⟨w.heap.size, 1, none⟩ = some (.string r.2.1) ∧ W.cell? ⟨w.heap.size, 2, none⟩ = some (.bool r.2.2.1.1) ∧ W.cell? ⟨w.heap.size, 3, none⟩ = some (.slice Ar r.2.2.1.2.length cr) ∧ W.cell? ⟨w.heap.size, 4, none⟩ = some (.int .i64 r.2.2.2) ∧ W.cell? ⟨B, 0, none⟩ = some (.string p) ∧ W.cell? ⟨B, 1, none⟩ = some (.string q) ∧ Hid (Chg [] (w.alloc (.cells #[.string r.1, .string r.2.1, .bool r.2.2.1.1, .slice Ar r.2.2.1.2.length cr, .int .i64 r.2.2.2] 54)) W) from fun W hc => ⟨(kr.chg hc (fun i hi hm => by simp at hm)).here.cell 0 _ rfl, (kr.chg hc (fun i hi hm => by simp at hm)).here.cell 1 _ rfl, (kr.chg hc (fun i hi hm => by simp at hm)).here.cell 2 _ rfl, (kr.chg hc (fun i hi hm => by simp at hm)).here.cell 3 _ rfl, (kr.chg hc (fun i hi hm => by simp at hm)).here.cell 4 _ rfl, (kp.chg hc (fun i hi hm => by simp at hm)).here.cell 0 _ rfl, (kp.chg hc (fun i hi hm => by simp at hm)).here.cell 1 _ rfl, Lib.hid hc⟩)
    have BBF := Lib.hid (show ∀ W, Chg [] (w.alloc (.cells #[.string r.1, .string r.2.1, .bool r.2.2.1.1, .slice Ar r.2.2.1.2.length cr, .int .i64 r.2.2.2] 54)) W → Below w.heap.size w W from fun W hc => below_chg bb0 hc bb0.size (fun i hi => by simp at hi))
    clear kr_c0 kr_c1 kr_c2 kr_c3 kr_c4 kp_c0 kp_c1
    go_region_held3 (fun W => W.cell? ⟨w.heap.size, 0, none⟩ = some (.string r.1) ∧ W.cell? ⟨w.heap.size, 1, none⟩ = some (.string r.2.1) ∧ W.cell? ⟨w.heap.size, 2, none⟩ = some (.bool r.2.2.1.1) ∧ W.cell? ⟨w.heap.size, 3, none⟩ = some (.slice Ar r.2.2.1.2.length cr) ∧ W.cell? ⟨w.heap.size, 4, none⟩ = some (.int .i64 r.2.2.2) ∧ W.cell? ⟨B, 0, none⟩ = some (.string p) ∧ W.cell? ⟨B, 1, none⟩ = some (.string q) ∧ Hid (Chg [] (w.alloc (.cells #[.string r.1, .string r.2.1, .bool r.2.2.1.1, .slice Ar r.2.2.1.2.length cr, .int .i64 r.2.2.2] 54)) W))
      ((refine KL.out _ ?_; (first | exact HC1.out | exact HCr.out | exact HC0.out | exact HC1.out.drew1 | exact HCr.out.drew1 | exact HC0.out.drew1 | exact HC1.out.trans (Chg.of_below (below_al (Below.refl _ _) _)) | exact HCr.out.trans (Chg.of_below (below_al (Below.refl _ _) _)) | exact HC0.out.trans (Chg.of_below (below_al (Below.refl _ _) _)) | fail)))
      (first
        | (go_at_call 94; (have hBB := (‹_ ∧ _ ∧ _ ∧ _ ∧ _ ∧ _ ∧ _ ∧ Hid (Chg [] (w.alloc (.cells #[.string r.1, .string r.2.1, .bool r.2.2.1.1, .slice Ar r.2.2.1.2.length cr, .int .i64 r.2.2.2] 54)) _)›).2.2.2.2.2.2.2); (with_reducible refine (pairOf_any _ r _ (HR.out _ (BBF.out _ hBB.out))).mono ?_); rintro e w1 ⟨rfl, b1⟩; have HC1 := Lib.hid (hBB.out.trans (Chg.of_below b1)); have HBZ1 := Lib.hid hBB.out.size; clear hBB))
    have bb1 := BBF.out _ HC1.out
    replace kr := kr.chg HC1.out (fun i hi hm => by simp at hm)
    replace kp := kp.chg HC1.out (fun i hi hm => by simp at hm)
    clear HC0 HCr KL BBF kr kp
    go_wp2
    go_ret
    exact ⟨ret_bool HV.out.symm, bb1⟩
theorem rateAt1_enters : ∀ (args : Array Value) (w : World), (callFunc 168 args).run Tryz.prog w = .ok (.enter 168 args) w := enters_of Tryz.func168 (by kernel_rfl) rfl
set_option maxHeartbeats 4000000 in
set_option maxRecDepth 100000 in
theorem indexE_any (v : Value) (l : List EI) (B : Nat) (p q : ByteArray) (w : World) (hl : l.length ≤ 140737488355328) (h : RdEL w v l) (kp : At [B] (BoxAt B #[.string p, .string q] 132) w) :
    Calls Tryz.prog 167 #[v, .func (.func 168) #[] #[.pointer (some ⟨B, 0, none⟩)]] w (Postn (posE l p q) w) := by
  obtain ⟨A, c, rfl, hc⟩ := h
  have HC := Lib.hid hc
  have KP := Lib.hid (show ∀ W, Below w.heap.size w W → At [B] (BoxAt B #[.string p, .string q] 132) W from fun W hb => kp.below hb)
  have he := rateAt1_enters
  clear hc kp
  go_enter Tryz.func167, Tryz.ntmps167
  go_wp2
  go_loopw [5, 8] (fun _ i wr => ∃ k : Nat, k ≤ l.length ∧ i = .int .i64 k ∧ Hid (k ≤ atE l p q) ∧ Below w.heap.size w wr) (fun _ i _ => l.length - (intOf i).toNat)
  case atStart => exact ⟨0, Nat.zero_le _, rfl, Lib.hid (Nat.zero_le _), Below.refl _ _⟩
  case round =>
    obtain ⟨k, hk, rfl, HK, hb⟩ := hrel
    by_cases hlt : k < l.length
    · obtain ⟨x, hxk⟩ : ∃ x, l[k]? = some x := ⟨_, List.getElem?_eq_getElem hlt⟩
      obtain ⟨a, u, rfl, ha, hc0, hc1, hc2, hc3, hc4, hr⟩ := HC.out k x hxk
      obtain ⟨A1, c1, rfl⟩ := row_form hr
      rw [intsV_length] at hc3 hr
      have k0 := (cell_keep5' hb ha k).trans hc0
      have k1 := (cell_keep5 hb ha k 1).trans hc1
      have k2 := (cell_keep5 hb ha k 2).trans hc2
      have k3 := (cell_keep5 hb ha k 3).trans hc3
      have k4 := (cell_keep5 hb ha k 4).trans hc4
      have hcall := rateAt1_any (.agg #[.string x.1, .string x.2.1, .bool x.2.2.1.1, .slice A1 x.2.2.1.2.length c1, .int .i64 x.2.2.2]) x B p q wr (RdE.below ⟨_, rfl, hr⟩ hb) (KP.out _ hb)
      have HB := Lib.hid hb
      clear hc0 hc1 hc2 hc3 hc4 hr ha hb
      by_cases hp : x.1 = p ∧ x.2.1 = q
      · have HV := Lib.hid (posE_hit HK.out hxk hp)
        rw [show (decide (x.1 = p) && decide (x.2.1 = q)) = true by rw [decide_eq_true hp.1, decide_eq_true hp.2]; rfl] at hcall
        clear hp hxk
        go_wp2_with (go_at_fn 168; refine hcall.mono ?_; rintro e w1 ⟨rfl, b1⟩)
        go_ret
        exact ⟨ret_int HV.out.symm, Below.next HB.out b1⟩
      · have HN := Lib.hid (atE_next HK.out hxk hp)
        rw [show (decide (x.1 = p) && decide (x.2.1 = q)) = false by
          by_cases h1 : x.1 = p
          · rw [decide_eq_false (fun h2 => hp ⟨h1, h2⟩), Bool.and_false]
          · rw [decide_eq_false h1, Bool.false_and]] at hcall
        clear hp hxk
        go_wp2_with (go_at_fn 168; refine hcall.mono ?_; rintro e w1 ⟨rfl, b1⟩)
        go_roundw
        case rel => exact ⟨k + 1, by omega, by go_num, HN, Below.next HB.out b1⟩
        case measure => simp [intOf]; omega
    · obtain rfl : k = l.length := by omega
      have HV := Lib.hid (posE_none HK.out)
      go_wp2
      go_ret
      exact ⟨ret_int HV.out.symm, hb⟩
set_option maxHeartbeats 2000000 in
set_option maxRecDepth 100000 in
theorem rateAt_any (v : Value) (l : List EI) (p q : ByteArray) (w : World) (hl : l.length ≤ 140737488355328) (h : RdEL w v l) :
    Calls Tryz.prog 93 #[v, .agg #[.string p, .string q]] w (Postn (posE l p q) w) := by
  have hcall := indexE_any v l w.heap.size p q _ hl (h.below (below_al (Below.refl _ _) (.cells #[.string p, .string q] 132))) (box_new w #[.string p, .string q] 132)
  obtain ⟨A, c, rfl, _⟩ := h
  go_enter Tryz.func93, Tryz.ntmps93
  go_wp2_with fail
  refine hcall.mono ?_
  rintro e w1 ⟨rfl, b1⟩
  have bb := Below.next (below_al (Below.refl _ _) _) b1
  go_wp2
  go_ret
  exact ⟨rfl, bb⟩
end Go.Proofs.YtehkknphcflofaaGreatDoor

namespace Go.Proofs.YtehkknphcflofaaGreatDoor
open Go.RowKit

theorem cmpS_zero {b : SI} (h : okS b = true) : (cmpS b zeroS = 0) ↔ nval b.2 = 0 := by
  have n := nval_ok (okS_parts h).1
  unfold cmpS
  rw [if_pos ⟨h, zeroS_ok⟩, zeroS_val]
  have e : valS b = 0 ↔ nval b.2 = 0 := by
    unfold valS
    split <;> omega
  rw [← e]
  unfold cmpI
  split
  · omega
  · split <;> omega
theorem makeQ_none {a b : SI} (h : ¬ (okS a = true ∧ cmpS b zeroS ≠ 0)) : makeQ a b = (zeroQ, false) := by
  unfold makeQ
  split
  · rename_i hk
    have hz : nval b.2 = 0 := (cmpS_zero hk.2).1 (Classical.byContradiction fun e => h ⟨hk.1, e⟩)
    unfold lowQ
    rw [if_neg (fun k => k.1 (by rw [hz]; rfl))]
  · rfl
theorem cmpS_ok {b : SI} (h : cmpS b zeroS ≠ 0) : okS b = true := by
  unfold cmpS at h
  rcases Classical.em (okS b = true ∧ okS zeroS = true) with k | k
  · exact k.1
  · rw [if_neg k] at h
    exact absurd rfl h
/-- the parts that RatMake divides out -/
theorem makeQ_parts {a b : SI} (ha : okS a = true) (hb : cmpS b zeroS ≠ 0) : ∃ X Y : Nat,
    gcdN a.2 b.2 = limbs (Nat.gcd (nval a.2).toNat (nval b.2).toNat) ∧ (divN a.2 (gcdN a.2 b.2)).1 = limbs X ∧ (divN b.2 (gcdN a.2 b.2)).1 = limbs Y ∧ (limbs X).length ≤ 50 ∧ (limbs Y).length ≤ 50 ∧ 0 < (limbs Y).length ∧
    makeQ a b = if (limbs X).length ≤ 18 ∧ (limbs Y).length ≤ 18 then ((mkS (!(a.1 == b.1)) (limbs X), limbs Y), true) else (zeroQ, false) := by
  have hkb := cmpS_ok hb
  have pa := okS_parts ha
  have pb := okS_parts hkb
  have na := nval_ok pa.1
  have nb := nval_ok pb.1
  have hz : nval b.2 ≠ 0 := fun e => hb ((cmpS_zero hkb).2 e)
  have hg := gcdN_small a.2 b.2
  have eg : gcdN a.2 b.2 = limbs (Nat.gcd (nval a.2).toNat (nval b.2).toNat) := by unfold gcdN; rw [if_pos ⟨pa.1, pb.1⟩]
  have g0 := Nat.gcd_pos_of_pos_right (nval a.2).toNat (show 0 < (nval b.2).toNat by omega)
  have okg : natOkB (gcdN a.2 b.2) = true := by rw [eg] at hg ⊢; exact limbs_okL _ hg
  have lg : 0 < (gcdN a.2 b.2).length := by
    rw [eg]
    rcases Nat.eq_zero_or_pos (limbs (Nat.gcd (nval a.2).toNat (nval b.2).toNat)).length with h | h
    · have := (limbs_zero_iff _).1 h
      omega
    · exact h
  have dv : ∀ c : List Int, natOkB c = true → (divN c (gcdN a.2 b.2)).1 = limbs ((nval c).toNat / Nat.gcd (nval a.2).toNat (nval b.2).toNat) ∧ (limbs ((nval c).toNat / Nat.gcd (nval a.2).toNat (nval b.2).toNat)).length ≤ 50 := by
    intro c hc
    have nc := nval_ok hc
    unfold divN
    rw [if_pos ⟨hc, okg, lg⟩, eg, limbs_val]
    have e : (nval c / ((Nat.gcd (nval a.2).toNat (nval b.2).toNat : Nat) : Int)).toNat = (nval c).toNat / Nat.gcd (nval a.2).toNat (nval b.2).toNat := by
      rw [← div_toNat]
      congr 2
      omega
    simp only
    rw [e]
    refine ⟨rfl, ?_⟩
    have hm := limbs_mono (m := (((nval c).toNat / Nat.gcd (nval a.2).toNat (nval b.2).toNat : Nat) : Int)) (n := nval c) (by omega) (by have := Nat.div_le_self (nval c).toNat (Nat.gcd (nval a.2).toNat (nval b.2).toNat); omega)
    rw [Int.toNat_natCast, ← natOk_limbs hc] at hm
    have := (natOk_parts hc).2.1
    omega
  have hy : 0 < (limbs ((nval b.2).toNat / Nat.gcd (nval a.2).toNat (nval b.2).toNat)).length := by
    have h1 := Nat.div_pos (Nat.le_of_dvd (show 0 < (nval b.2).toNat by omega) (Nat.gcd_dvd_right (nval a.2).toNat (nval b.2).toNat)) g0
    rcases Nat.eq_zero_or_pos (limbs ((nval b.2).toNat / Nat.gcd (nval a.2).toNat (nval b.2).toNat)).length with h | h
    · have := (limbs_zero_iff _).1 h
      omega
    · exact h
  refine ⟨(nval a.2).toNat / Nat.gcd (nval a.2).toNat (nval b.2).toNat, (nval b.2).toNat / Nat.gcd (nval a.2).toNat (nval b.2).toNat, eg, (dv _ pa.1).1, (dv _ pb.1).1, (dv _ pa.1).2, (dv _ pb.1).2, hy, ?_⟩
  unfold makeQ
  rw [if_pos ⟨ha, hkb⟩]
  unfold lowQ
  have h0 : (nval b.2).toNat ≠ 0 := by omega
  have e : (a.1 != b.1) = !(a.1 == b.1) := rfl
  simp only [h0, ne_eq, not_false_eq_true, true_and, e]

theorem mulS_cross {x : SI} {d : List Int} {n : Nat} (hx : okS x = true) (hd : natOkB d = true) (hn : n = (nval d).toNat) : mulS x (false, d) = ofZ (valS x * n) ∧ okS (false, d) = true := by
  have h0 := nval_ok hd
  have hk : okS (false, d) = true := by unfold okS; rw [hd]; rfl
  refine ⟨?_, hk⟩
  unfold mulS
  rw [if_pos ⟨hx, hk⟩]
  have : valS (false, d) = n := by unfold valS; simp; omega
  rw [this]
theorem cross_abs {q : QI} {n : Nat} (h : Parts q) (hn : (n : Int) < bp 18) : ((numQ q * n).natAbs : Int) < bp 36 := by
  rw [h.top]
  have := prod_lt h.nlt hn
  split
  · rw [Int.neg_mul, Int.natAbs_neg, ← Int.natCast_mul]; omega
  · rw [← Int.natCast_mul]; omega
theorem ofZ_short {z : Int} {k : Nat} (h : (z.natAbs : Int) < bp k) (hk : k ≤ 50) : okS (ofZ z) = true ∧ valS (ofZ z) = z ∧ ofZ z = (decide (z < 0), limbs z.natAbs) := by
  have hl := limbs_length_le z.natAbs k h
  refine ⟨ofZ_ok z, ofZ_val (by omega), ?_⟩
  unfold ofZ
  rw [if_pos (by omega)]
/-- what RatMake makes of integers -/
theorem makeQ_ofZ {z : Int} {k m : Nat} {n : Bool} {d : List Int} (h : (z.natAbs : Int) < bp k) (hk : k ≤ 50) (hd : d = limbs m) (_ : (limbs m).length ≤ 50) (hn : okS (n, d) = true) : makeQ (ofZ z) (n, d) = lowQ (decide (z < 0) != n) z.natAbs m := by
  obtain ⟨h1, _, h3⟩ := ofZ_short h hk
  unfold makeQ
  rw [if_pos ⟨h1, hn⟩, h3]
  simp only
  rw [limbs_val, hd, limbs_val, Int.toNat_natCast, Int.toNat_natCast]
theorem nil_ok {d : List Int} (hd : natOkB d = true) : okS (false, d) = true := by unfold okS; rw [hd]; rfl
theorem numQ_val (q : QI) : valS q.1 = numQ q := rfl
def leftS (r s : QI) : SI := mulS r.1 (false, s.2)
def denS (r s : QI) : SI := (false, mulN r.2 s.2)
def topS (r s : QI) : SI := mulS r.1 s.1
theorem leftS_eq {r s : QI} (hr : Parts r) (hs : Parts s) : leftS r s = ofZ (numQ r * denQ s) ∧ okS (leftS r s) = true ∧ valS (leftS r s) = numQ r * denQ s := by
  have h := (mulS_cross hr.okn hs.okd (show denQ s = _ from rfl)).1
  rw [numQ_val] at h
  have hz := ofZ_short (cross_abs hr hs.dlt) (by decide)
  unfold leftS
  rw [h]
  exact ⟨rfl, hz.1, hz.2.1⟩
theorem denS_eq {r s : QI} (hr : Parts r) (hs : Parts s) : denS r s = (false, limbs (denQ r * denQ s)) ∧ okS (denS r s) = true ∧ (limbs (denQ r * denQ s)).length ≤ 50 := by
  have hl := Nat.le_trans (prod_len hr.dlt hs.dlt) (show 36 ≤ 50 by decide)
  have e : mulN r.2 s.2 = limbs (denQ r * denQ s) := by
    unfold mulN natRes capL
    rw [if_pos ⟨hr.okd, hs.okd⟩, mul_toNat hr.okd hs.okd]
    show (if 50 < (limbs (denQ r * denQ s)).length then [] else limbs (denQ r * denQ s)) = _
    rw [if_neg (by omega)]
  unfold denS
  rw [e]
  exact ⟨rfl, nil_ok (limbs_okL _ hl), hl⟩
theorem topS_eq {r s : QI} (hr : Parts r) (hs : Parts s) : topS r s = ofZ (numQ r * numQ s) ∧ ((numQ r * numQ s).natAbs : Int) < bp 36 ∧ (numQ r * numQ s).natAbs = topN r * topN s := by
  have e : (numQ r * numQ s).natAbs = topN r * topN s := by
    rw [Int.natAbs_mul, hr.top, hs.top]
    congr 1 <;> split <;> omega
  unfold topS mulS
  rw [if_pos ⟨hr.okn, hs.okn⟩]
  exact ⟨rfl, by rw [e]; exact prod_lt hr.nlt hs.nlt, e⟩
theorem sum_abs {x y : Int} (hx : (x.natAbs : Int) < bp 36) (hy : (y.natAbs : Int) < bp 36) : ((x + y).natAbs : Int) < bp 37 ∧ ((x - y).natAbs : Int) < bp 37 := by
  have := bp37
  omega
theorem numQ_neg {s : QI} (oks : okQ s = true) : (negQ s).2 = true ∧ okQ (negQ s).1 = true ∧ numQ (negQ s).1 = -(numQ s) ∧ denQ (negQ s).1 = denQ s := by
  have h := parts_of oks
  have e : negQ s = ((negS s.1, s.2), true) := by unfold negQ; rw [if_pos oks]
  rw [e]
  have hv := negS_val h.okn
  have hp := okQ_parts oks
  have habs : nval (negS s.1).2 = nval s.1.2 ∧ (negS s.1).2.length = s.1.2.length := by
    have e2 : (negS s.1).2 = limbs (valS s.1).natAbs := by
      unfold negS
      rw [if_pos h.okn]
      have := ofZ_short (z := -(valS s.1)) (k := 18) (by rw [Int.natAbs_neg, valS_abs _ (okS_parts h.okn).1]; exact h.nlt) (by decide)
      rw [this.2.2, Int.natAbs_neg]
    have e3 : s.1.2 = limbs (valS s.1).natAbs := by
      rw [valS_abs _ (okS_parts h.okn).1]
      exact natOk_limbs (okS_parts h.okn).1
    rw [e2, ← e3]
    exact ⟨rfl, rfl⟩
  refine ⟨rfl, ?_, hv, rfl⟩
  unfold okQ
  rw [negS_ok, h.okd]
  simp only [Bool.true_and, decide_eq_true_eq]
  rw [habs.1, habs.2]
  exact ⟨hp.2.2.1, hp.2.2.2.1, hp.2.2.2.2.1, hp.2.2.2.2.2⟩
theorem subQ_make {r s : QI} (hr : Parts r) (hs : Parts s) (okr : okQ r = true) (oks : okQ s = true) : makeQ (subS (leftS r s) (leftS s r)) (denS r s) = subQ r s := by
  have l := leftS_eq hr hs
  have m := leftS_eq hs hr
  have d := denS_eq hr hs
  have e : subS (leftS r s) (leftS s r) = ofZ (numQ r * denQ s - numQ s * denQ r) := by
    unfold subS
    rw [if_pos ⟨l.2.1, m.2.1⟩, l.2.2, m.2.2]
  have n := numQ_neg oks
  rw [e, d.1, makeQ_ofZ (sum_abs (cross_abs hr hs.dlt) (cross_abs hs hr.dlt)).2 (by decide) rfl d.2.2 (by rw [← d.1]; exact d.2.1)]
  unfold subQ addQ
  rw [if_pos n.1, if_pos ⟨okr, n.2.1⟩, n.2.2.1, n.2.2.2, Int.neg_mul, ← Int.sub_eq_add_neg]
  simp
theorem lowQ_sign {n m : Bool} {a b : Nat} (h : a ≠ 0 → n = m) : lowQ n a b = lowQ m a b := by
  by_cases ha : a = 0
  · subst ha
    unfold lowQ
    have e : ∀ k : Bool, mkS k (limbs (0 / Nat.gcd 0 b)) = zeroS := fun k => by
      rw [Nat.zero_div, mkS_limbs]
      cases k <;> exact ofZ_zero
    rw [e, e]
  · rw [h ha]
theorem mulQ_make {r s : QI} (hr : Parts r) (hs : Parts s) (okr : okQ r = true) (oks : okQ s = true) : makeQ (topS r s) (denS r s) = mulQ r s := by
  have t := topS_eq hr hs
  have d := denS_eq hr hs
  rw [t.1, d.1, makeQ_ofZ t.2.1 (by decide) rfl d.2.2 (by rw [← d.1]; exact d.2.1), t.2.2]
  unfold mulQ
  rw [if_pos ⟨okr, oks⟩]
  refine lowQ_sign fun h => ?_
  have hr0 : topN r ≠ 0 := fun e => h (by rw [e, Nat.zero_mul])
  have hs0 : topN s ≠ 0 := fun e => h (by rw [e, Nat.mul_zero])
  rw [hr.top, hs.top]
  have p : 0 < (topN r : Int) * (topN s : Int) := Int.mul_pos (by omega) (by omega)
  have e : decide ((if r.1.1 = true then -(topN r : Int) else topN r) * (if s.1.1 = true then -(topN s : Int) else topN s) < 0) = (r.1.1 != s.1.1) := by
    cases r.1.1 <;> cases s.1.1 <;> simp [Int.neg_mul, Int.mul_neg] <;> omega
  rw [e]
  cases (r.1.1 != s.1.1) <;> rfl
theorem divQ_make {r s : QI} (hr : Parts r) (hs : Parts s) (okr : okQ r = true) (oks : okQ s = true) : makeQ (leftS r s) (leftS s r) = divQ r s := by
  have l := leftS_eq hr hs
  have m := leftS_eq hs hr
  have h1 := ofZ_short (cross_abs hr hs.dlt) (by decide)
  have h2 := ofZ_short (cross_abs hs hr.dlt) (by decide)
  have a1 : (numQ r * denQ s).natAbs = topN r * denQ s := by rw [Int.natAbs_mul, hr.top, Int.natAbs_natCast]; congr 1; split <;> omega
  have a2 : (numQ s * denQ r).natAbs = denQ r * topN s := by rw [Int.natAbs_mul, hs.top, Int.natAbs_natCast, Nat.mul_comm]; congr 1; split <;> omega
  unfold makeQ divQ
  rw [if_pos ⟨l.2.1, m.2.1⟩, if_pos ⟨okr, oks⟩, l.1, m.1, h1.2.2, h2.2.2]
  simp only
  rw [limbs_val, limbs_val, Int.toNat_natCast, Int.toNat_natCast, a1, a2]
  by_cases hs0 : topN s = 0
  · have e : (denQ r * topN s) = 0 := by rw [hs0, Nat.mul_zero]
    have e2 : denQ r * (nval s.1.2).toNat = 0 := e
    rw [e, e2]
    unfold lowQ
    simp
  · refine lowQ_sign fun h => ?_
    have hr0 : topN r ≠ 0 := fun e => h (by rw [e, Nat.zero_mul])
    have p1 : 0 < (topN r : Int) * (denQ s : Int) := Int.mul_pos (by omega) (by have := hs.pos; omega)
    have p2 : 0 < (topN s : Int) * (denQ r : Int) := Int.mul_pos (by omega) (by have := hr.pos; omega)
    have e1 : decide (numQ r * denQ s < 0) = r.1.1 := by rw [hr.top]; cases r.1.1 <;> simp [Int.neg_mul] <;> omega
    have e2 : decide (numQ s * denQ r < 0) = s.1.1 := by rw [hs.top]; cases s.1.1 <;> simp [Int.neg_mul] <;> omega
    rw [e1, e2]
end Go.Proofs.YtehkknphcflofaaGreatDoor

namespace Go.Proofs.YtehkknphcflofaaGreatDoor
open Go.RowKit

/-! ### how many bits -/
theorem lenAux_lt : ∀ (f x : Nat), x < 2 ^ f → x < 2 ^ Lib.bitLenAux f x
  | 0, x, h => h
  | f + 1, x, h => by
    unfold Lib.bitLenAux
    by_cases h0 : x = 0
    · rw [if_pos h0, h0]; decide
    · rw [if_neg h0, Nat.add_comm, Nat.pow_succ]
      have := lenAux_lt f (x / 2) (by rw [Nat.pow_succ] at h; omega)
      omega
theorem lenAux_ge : ∀ (f x : Nat), 0 < x → 2 ^ Lib.bitLenAux f x ≤ 2 * x
  | 0, x, h => by show 1 ≤ _; omega
  | f + 1, x, h => by
    unfold Lib.bitLenAux
    rw [if_neg (by omega), Nat.add_comm, Nat.pow_succ]
    by_cases h1 : x / 2 = 0
    · have e : Lib.bitLenAux f (x / 2) = 0 := by
        cases f with
        | zero => rfl
        | succ f => unfold Lib.bitLenAux; rw [if_pos h1]
      rw [e]
      omega
    · have := lenAux_ge f (x / 2) (by omega)
      omega
theorem lenAux_le : ∀ (f x : Nat), Lib.bitLenAux f x ≤ f
  | 0, _ => Nat.le_refl _
  | f + 1, x => by
    unfold Lib.bitLenAux
    split
    · omega
    · have := lenAux_le f (x / 2)
      omega
/-- shifted so far that the highest bit is set -/
theorem shifted {y : Nat} (h0 : 0 < y) (h : y < 18446744073709551616) : Lib.bitLen y ≤ 64 ∧ 64 - Lib.bitLen y < 64 ∧ 9223372036854775808 ≤ y * 2 ^ (64 - Lib.bitLen y) ∧ y * 2 ^ (64 - Lib.bitLen y) < 18446744073709551616 := by
  have h1 := lenAux_lt 64 y h
  have h2 := lenAux_ge 64 y h0
  have h3 := lenAux_le 64 y
  change y < 2 ^ Lib.bitLen y at h1
  change 2 ^ Lib.bitLen y ≤ 2 * y at h2
  change Lib.bitLen y ≤ 64 at h3
  have h4 : Lib.bitLen y ≠ 0 := by
    intro e
    rw [e] at h1
    omega
  have e : 2 ^ Lib.bitLen y * 2 ^ (64 - Lib.bitLen y) = 18446744073709551616 := by
    rw [← Nat.pow_add, show Lib.bitLen y + (64 - Lib.bitLen y) = 64 by omega]
  have hp : 0 < 2 ^ (64 - Lib.bitLen y) := Nat.pow_pos (by omega)
  refine ⟨h3, by omega, ?_, ?_⟩
  · have := Nat.mul_le_mul_right (2 ^ (64 - Lib.bitLen y)) h2
    rw [e, Nat.mul_assoc] at this
    omega
  · have := (Nat.mul_lt_mul_right hp).2 h1
    rw [e] at this
    exact this

/-! ### one digit -/
/-- the guess q with its rest r, for the digit of (u, n) over (A, B) -/
def DigQ (A B u n q r : Nat) : Prop := q * A + r = u ∧ (u * 4294967296 + n) / (A * 4294967296 + B) ≤ q ∧ q ≤ 4294967297
theorem digQ_mul (A B u q r : Nat) (h : q * A + r = u) : q * (A * 4294967296 + B) + r * 4294967296 = u * 4294967296 + q * B := by
  rw [← h, Nat.mul_add, Nat.add_mul, ← Nat.mul_assoc]
  omega
theorem DigQ.start {A B u n : Nat} (hA : 2147483648 ≤ A) (hB : B < 4294967296) (hn : n < 4294967296) (hu : u < A * 4294967296 + B) : DigQ A B u n (u / A) (u % A) := by
  refine ⟨by rw [Nat.mul_comm]; exact Nat.div_add_mod u A, ?_, ?_⟩
  · apply Nat.le_of_lt_succ
    rw [Nat.div_lt_iff_lt_mul (by omega)]
    have h1 := Nat.div_add_mod u A
    have h2 := Nat.mod_lt u (show 0 < A by omega)
    have h3 : (u / A).succ * (A * 4294967296 + B) = A * (u / A) * 4294967296 + A * 4294967296 + (u / A).succ * B := by
      rw [Nat.mul_add, Nat.succ_mul, ← Nat.mul_assoc, Nat.mul_comm (u / A) A]
    rw [h3]
    omega
  · apply Nat.le_of_lt_succ
    rw [Nat.div_lt_iff_lt_mul (by omega)]
    omega
theorem lt_shift {z r u x n : Nat} (e : z + r = u + x) (h : r + n < x) : u + n < z := by omega
/-- too great a guess -/
theorem DigQ.down {A B u n q r : Nat} (h : DigQ A B u n q r) (hu : u < A * 4294967296 + B) (hn : n < 4294967296) (ht : 4294967296 ≤ q ∨ r * 4294967296 + n < q * B) : 0 < q ∧ DigQ A B u n (q - 1) (r + A) := by
  obtain ⟨h1, h2, h3⟩ := h
  have hq : 0 < q := by
    rcases Nat.eq_zero_or_pos q with h0 | h0
    · subst h0
      rcases ht with ht | ht
      · omega
      · rw [Nat.zero_mul] at ht; omega
    · exact h0
  have e := digQ_mul A B u q r h1
  have hlt : (u * 4294967296 + n) / (A * 4294967296 + B) < q := by
    rw [Nat.div_lt_iff_lt_mul (by omega)]
    rcases ht with ht | ht
    · have h5 := Nat.mul_le_mul_right (A * 4294967296 + B) ht
      generalize q * (A * 4294967296 + B) = z at *
      omega
    · exact lt_shift e ht
  refine ⟨hq, ?_, by omega, by omega⟩
  obtain ⟨p, rfl⟩ : ∃ p, q = p + 1 := ⟨q - 1, by omega⟩
  rw [Nat.add_sub_cancel]
  rw [Nat.succ_mul] at h1
  omega
/-- no longer too great -/
theorem DigQ.done {A B u n q r : Nat} (h : DigQ A B u n q r) (hA : 2147483648 ≤ A) (ht : q * B ≤ r * 4294967296 + n) : q = (u * 4294967296 + n) / (A * 4294967296 + B) := by
  obtain ⟨h1, h2, _⟩ := h
  apply Nat.le_antisymm _ h2
  rw [Nat.le_div_iff_mul_le (by omega)]
  have e := digQ_mul A B u q r h1
  omega
theorem DigQ.past {B n q r : Nat} (hB : B < 4294967296) (hq : q ≤ 4294967296) (hr : 4294967296 ≤ r) : q * B ≤ r * 4294967296 + n := by
  have h1 : q * B ≤ 4294967296 * 4294967295 := Nat.mul_le_mul hq (by omega)
  omega
theorem DigQ.rest {A B u n q r : Nat} (h : DigQ A B u n q r) : r = u - q * A := by have := h.1; omega

/-- two digits, one behind the other -/
theorem two_digits (U m1 m0 Y : Nat) (hY : 0 < Y) :
    ((U * 4294967296 + m1) * 4294967296 + m0) / Y = (U * 4294967296 + m1) / Y * 4294967296 + ((U * 4294967296 + m1) % Y * 4294967296 + m0) / Y := by
  have e := Nat.div_add_mod (U * 4294967296 + m1) Y
  have e2 : (U * 4294967296 + m1) * 4294967296 + m0 = (U * 4294967296 + m1) % Y * 4294967296 + m0 + Y * ((U * 4294967296 + m1) / Y * 4294967296) := by
    have : Y * ((U * 4294967296 + m1) / Y * 4294967296) = Y * ((U * 4294967296 + m1) / Y) * 4294967296 := (Nat.mul_assoc _ _ _).symm
    rw [this]
    generalize Y * ((U * 4294967296 + m1) / Y) = z at *
    omega
  rw [e2, Nat.add_mul_div_left _ _ hY, Nat.add_comm]
theorem digit_lt {U n Y : Nat} (hU : U < Y) (hn : n < 4294967296) : (U * 4294967296 + n) / Y < 4294967296 := by
  rw [Nat.div_lt_iff_lt_mul (by omega)]
  have : 4294967296 * (U + 1) ≤ 4294967296 * Y := Nat.mul_le_mul_left _ hU
  omega
/-- the shifted dividend, in three parts -/
theorem shift_parts {hi lo s Y : Nat} (hs : s < 64) (hl : lo < 18446744073709551616) (y : Nat) (hY : Y = y * 2 ^ s) (hh : hi < y) :
    (hi * 18446744073709551616 + lo) / y = ((hi * 2 ^ s + lo / 2 ^ (64 - s)) * 18446744073709551616 + lo * 2 ^ s % 18446744073709551616) / Y ∧ lo / 2 ^ (64 - s) < 2 ^ s ∧ hi * 2 ^ s + lo / 2 ^ (64 - s) < Y := by
  have hp : 0 < 2 ^ s := Nat.pow_pos (by omega)
  have hp2 : 0 < 2 ^ (64 - s) := Nat.pow_pos (by omega)
  have e64 : 2 ^ s * 2 ^ (64 - s) = 18446744073709551616 := by rw [← Nat.pow_add, show s + (64 - s) = 64 by omega]
  have hlt : lo / 2 ^ (64 - s) < 2 ^ s := by rw [Nat.div_lt_iff_lt_mul hp2, e64]; exact hl
  refine ⟨?_, hlt, ?_⟩
  · have e : (hi * 2 ^ s + lo / 2 ^ (64 - s)) * 18446744073709551616 + lo * 2 ^ s % 18446744073709551616 = (hi * 18446744073709551616 + lo) * 2 ^ s := by
      have e1 : lo * 2 ^ s / 18446744073709551616 = lo / 2 ^ (64 - s) := by
        rw [← e64, Nat.mul_comm (2 ^ s) (2 ^ (64 - s)), Nat.mul_div_mul_right _ _ hp]
      have e2 := Nat.div_add_mod (lo * 2 ^ s) 18446744073709551616
      rw [e1] at e2
      have e3 : (hi * 18446744073709551616 + lo) * 2 ^ s = hi * 2 ^ s * 18446744073709551616 + lo * 2 ^ s := by rw [Nat.add_mul, Nat.mul_right_comm]
      rw [e3]
      omega
    rw [e, hY, Nat.mul_div_mul_right _ _ hp]
  · rw [hY]
    have : (hi + 1) * 2 ^ s ≤ y * 2 ^ s := Nat.mul_le_mul_right _ hh
    rw [Nat.add_mul] at this
    omega
theorem or_add {a b s : Nat} (h : b < 2 ^ s) (ha : a * 2 ^ s < 18446744073709551616) (hb : b < 18446744073709551616) : bits .or .u64 ((a * 2 ^ s : Nat) : Int) (b : Int) = ((a * 2 ^ s + b : Nat) : Int) := by
  rw [bits_or_u64_nat _ _ ha hb]
  congr 1
  rw [Nat.mul_comm, ← Nat.two_pow_add_eq_or_of_lt h]
theorem and_low {a : Nat} (h : a < 18446744073709551616) : bits .and .u64 (a : Int) 4294967295 = ((a % 4294967296 : Nat) : Int) := by
  have h1 := bits_and_u64_nat a 4294967295 h (by omega)
  rw [show a &&& 4294967295 = a % 4294967296 from Nat.and_two_pow_sub_one_eq_mod a 32] at h1
  exact h1
theorem wrapU (a : Nat) : IntKind.u64.wrap (a : Int) = ((a % 18446744073709551616 : Nat) : Int) := by rw [IntKind.wrap_u64]; omega
theorem wrapL (a : Nat) (h : a < 18446744073709551616) : IntKind.u64.wrap (a : Int) = (a : Int) := by rw [IntKind.wrap_u64]; omega
theorem wrapD {a b c : Nat} (hc : c ≤ a) (h : a - c < 18446744073709551616) (hb : b = a - c) : IntKind.u64.wrap (IntKind.u64.wrap (a : Int) - IntKind.u64.wrap (c : Int)) = (b : Int) := by
  rw [IntKind.wrap_u64, IntKind.wrap_u64, IntKind.wrap_u64]
  omega
theorem wrapT {U m z v : Nat} (h : z + v = U * 4294967296 + m) (hv : v < 18446744073709551616) :
    IntKind.u64.wrap (IntKind.u64.wrap (IntKind.u64.wrap ((U : Int) * 4294967296) + (m : Int)) - IntKind.u64.wrap (z : Int)) = (v : Int) := by
  rw [IntKind.wrap_u64, IntKind.wrap_u64, IntKind.wrap_u64, IntKind.wrap_u64]
  omega

/-- the quotient, and whatever rest -/
def QuoPost (q : Nat) (w : World) (e : Ending) (w' : World) : Prop := (∃ r, e = .returned (.tuple #[.int .u64 q, .int .u64 r])) ∧ ∃ n, w.drewN n = w'
set_option maxHeartbeats 400000 in
set_option maxRecDepth 100000 in
theorem div64_small (lo y : Nat) (h0 : 0 < y) (hl : lo < 18446744073709551616) (hy : y < 18446744073709551616) (w : World) :
    Calls Tryz.prog 315 #[.int .u64 0, .int .u64 lo, .int .u64 y] w (QuoPost (lo / y) w) := by
  have hq := Nat.div_le_self lo y
  have e1 : IntKind.u64.wrap ((lo : Int) / (y : Int)) = ((lo / y : Nat) : Int) := by
    rw [← Int.natCast_ediv, wrapL _ (by omega)]
  have hy0 : ¬ ((y : Int) = 0) := by omega
  have hy1 : ¬ (y = 0) := by omega
  go_enter Tryz.func315, Tryz.ntmps315
  go_wp2
  go_quiet (fail)
  go_wp2
  go_ret2
  exact ⟨⟨_, rfl⟩, _, rfl⟩

/-- what stands in the guess's two slots -/
def DigS (A B u n : Nat) (q r : Value) : Prop := ∃ qn rn : Nat, q = .int .u64 qn ∧ r = .int .u64 rn ∧ rn < 4294967296 ∧ Hid (DigQ A B u n qn rn)
set_option maxHeartbeats 2000000 in
set_option maxRecDepth 100000 in
theorem div64_big (hi lo y : Nat) (hh : hi < y) (h0 : 0 < hi) (hl : lo < 18446744073709551616) (hy : y < 18446744073709551616) (w : World) :
    Calls Tryz.prog 315 #[.int .u64 hi, .int .u64 lo, .int .u64 y] w (QuoPost ((hi * 18446744073709551616 + lo) / y) w) := by
  obtain ⟨hb1, hs, hY0, hY1⟩ := shifted (y := y) (by omega) hy
  have hsn : (64 : Int) - (Lib.bitLen y : Int) = ((64 - Lib.bitLen y : Nat) : Int) := by omega
  have HSN := Lib.hid hsn
  clear hsn
  generalize 64 - Lib.bitLen y = s at *
  obtain ⟨hp1, hp2, hp3⟩ := shift_parts hs hl y rfl hh
  have hor : bits .or .u64 ((hi * 2 ^ s : Nat) : Int) ((lo / 2 ^ (64 - s) : Nat) : Int) = ((hi * 2 ^ s + lo / 2 ^ (64 - s) : Nat) : Int) := or_add hp2 (by have := Nat.zero_le (lo / 2 ^ (64 - s)); have := Nat.le_add_right (hi * 2 ^ s) (lo / 2 ^ (64 - s)); exact Nat.lt_of_le_of_lt this (Nat.lt_trans hp3 hY1)) (by have := Nat.div_le_self lo (2 ^ (64 - s)); omega)
  have e1 : IntKind.u64.wrap ((y : Int) * 2 ^ s) = ((y * 2 ^ s : Nat) : Int) := by
    rw [show (y : Int) * 2 ^ s = ((y * 2 ^ s : Nat) : Int) by push_cast; rfl, wrapL _ hY1]
  have e3 : IntKind.u64.wrap ((hi : Int) * 2 ^ s) = ((hi * 2 ^ s : Nat) : Int) := by
    rw [show (hi : Int) * 2 ^ s = ((hi * 2 ^ s : Nat) : Int) by push_cast; rfl, wrapL _ (Nat.lt_of_le_of_lt (Nat.le_add_right (hi * 2 ^ s) (lo / 2 ^ (64 - s))) (Nat.lt_trans hp3 hY1))]
  have e4 : (lo : Int) / 2 ^ (64 - s) = ((lo / 2 ^ (64 - s) : Nat) : Int) := by push_cast; rfl
  have e5 : IntKind.u64.wrap ((lo : Int) * 2 ^ s) = ((lo * 2 ^ s % 18446744073709551616 : Nat) : Int) := by
    rw [show (lo : Int) * 2 ^ s = ((lo * 2 ^ s : Nat) : Int) by push_cast; rfl, wrapU]
  have hm : lo * 2 ^ s % 18446744073709551616 < 18446744073709551616 := Nat.mod_lt _ (by omega)
  rw [← e4] at hor
  have HP := Lib.hid hp1
  clear hp1 hp2 e4
  generalize hi * 2 ^ s + lo / 2 ^ (64 - s) = U at *
  generalize lo * 2 ^ s % 18446744073709551616 = M at *
  generalize y * 2 ^ s = Y at *
  generalize hi * 2 ^ s = H at *
  -- the halves
  have a1 := and_low hY1
  have a2 := and_low hm
  obtain ⟨A, hA⟩ : ∃ A, A = Y / 4294967296 := ⟨_, rfl⟩
  obtain ⟨B, hB⟩ : ∃ B, B = Y % 4294967296 := ⟨_, rfl⟩
  obtain ⟨m1, hm1⟩ : ∃ A, A = M / 4294967296 := ⟨_, rfl⟩
  obtain ⟨m0, hm0⟩ : ∃ A, A = M % 4294967296 := ⟨_, rfl⟩
  have hAB : Y = A * 4294967296 + B := by omega
  have hMM : M = m1 * 4294967296 + m0 := by omega
  have hA0 : 2147483648 ≤ A := by omega
  have hA1 : A < 4294967296 := by omega
  have hB1 : B < 4294967296 := by omega
  have hm11 : m1 < 4294967296 := by omega
  have hm01 : m0 < 4294967296 := by omega
  have a3 : (Y : Int) / 4294967296 = (A : Int) := by omega
  have a4 : (M : Int) / 4294967296 = (m1 : Int) := by omega
  rw [← hB] at a1
  rw [← hm0] at a2
  have HY := Lib.hid hAB
  have HM := Lib.hid hMM
  clear hA hB hm1 hm0 hAB hMM hY0
  have hU64 : U < 18446744073709551616 := by omega
  have hq1 : U / A < 18446744073709551616 := Nat.lt_of_le_of_lt (Nat.div_le_self _ _) hU64
  have hq2 : U % A < 4294967296 := by have := Nat.mod_lt U (show 0 < A by omega); omega
  have e6 : IntKind.u64.wrap ((U : Int) / (A : Int)) = ((U / A : Nat) : Int) := by
    rw [← Int.natCast_ediv, wrapL _ hq1]
  have e7 : IntKind.u64.wrap ((U : Int) - IntKind.u64.wrap (((U / A : Nat) : Int) * (A : Int))) = ((U % A : Nat) : Int) := by
    have h1 := Nat.div_add_mod U A
    rw [show ((U / A : Nat) : Int) * (A : Int) = ((A * (U / A) : Nat) : Int) by push_cast; rw [Int.mul_comm], ← wrapL U hU64]
    exact wrapD (by omega) (by omega) (by omega)
  have HD1 : Hid (DigQ A B U m1 (U / A) (U % A)) := Lib.hid (DigQ.start hA0 hB1 hm11 (by rw [← HY.out]; exact hp3))
  have HUY := Lib.hid hp3
  clear hp3 hq1
  generalize U / A = q1 at *
  generalize U % A = r1 at *
  have hd1 := digit_lt HUY.out hm11
  have HT := Lib.hid (show (hi * 18446744073709551616 + lo) / y = (U * 4294967296 + m1) / Y * 4294967296 + ((U * 4294967296 + m1) % Y * 4294967296 + m0) / Y by
    rw [HP.out, HM.out, show U * 18446744073709551616 + (m1 * 4294967296 + m0) = (U * 4294967296 + m1) * 4294967296 + m0 by omega]
    exact two_digits U m1 m0 Y (by omega))
  have hvY := Nat.mod_lt (U * 4294967296 + m1) (show 0 < Y by omega)
  have f1 : IntKind.u64.wrap (IntKind.u64.wrap (IntKind.u64.wrap ((U : Int) * 4294967296) + (m1 : Int)) - IntKind.u64.wrap ((((U * 4294967296 + m1) / Y : Nat) : Int) * (Y : Int))) = (((U * 4294967296 + m1) % Y : Nat) : Int) := by
    have h1 := Nat.div_add_mod (U * 4294967296 + m1) Y
    rw [show (((U * 4294967296 + m1) / Y : Nat) : Int) * (Y : Int) = ((Y * ((U * 4294967296 + m1) / Y) : Nat) : Int) by rw [Int.mul_comm, ← Int.natCast_mul]]
    exact wrapT h1 (by omega)
  have hvD : (U * 4294967296 + m1) / Y = (U * 4294967296 + m1) / (A * 4294967296 + B) := by rw [← HY.out]
  obtain ⟨D1, hD1⟩ : ∃ D1, D1 = (U * 4294967296 + m1) / Y := ⟨_, rfl⟩
  obtain ⟨V, hV⟩ : ∃ V, V = (U * 4294967296 + m1) % Y := ⟨_, rfl⟩
  rw [← hD1] at hd1 HT f1 hvD
  rw [← hV] at HT hvY f1
  have HV1 := Lib.hid hvD
  clear hvD hD1 hV
  have hA2 : ¬ ((A : Int) = 0) := by omega
  go_enter Tryz.func315, Tryz.ntmps315
  go_wp2_with fail
  refine (Tryz.bits_LeadingZeros64 (y : Int) _ (by omega) (by omega)).mono ?_
  rintro e w1 ⟨rfl, rfl⟩
  rw [Int.toNat_natCast, HSN.out]
  go_upto_block 0 with fail
  go_cut [15] from 67 to 85 (fun q wx => q = .int .u64 (D1 : Int) ∧ wx = w1)
  case first =>
    go_wp2_with fail
    go_loop [15, 16] (DigS A B U m1) (fun q _ => (intOf q).toNat)
    case atStart => exact ⟨q1, r1, rfl, rfl, hq2, HD1⟩
    case round =>
      clear e1 e3 hor a1 a2 a3 a4 e5 e6 e7 hY1 hh h0 hl hs hb1 hm hU64 hq2 f1 hvY hd1
      obtain ⟨q, r, rfl, rfl, hr, HD⟩ := hrel
      have hqm : (q : Int) ≤ 4294967297 := by have := HD.out.2.2; omega
      have hr' : (r : Int) < 4294967296 := by omega
      clear hr
      by_cases hbig : 4294967296 ≤ q
      · have HN := Lib.hid (HD.out.down (by rw [← HY.out]; exact HUY.out) hm11 (.inl hbig))
        have hbig' : (4294967296 : Int) ≤ (q : Int) := by omega
        clear hbig
        have hq0 : (1 : Int) ≤ (q : Int) := by have := HN.out.1; omega
        by_cases hr2 : 4294967296 ≤ r + A
        · have HF : Hid (Value.int IntKind.u64 ((q : Int) - 1) = Value.int IntKind.u64 (D1 : Int)) := Lib.hid (by
            have h1 := HN.out.2.done hA0 (DigQ.past hB1 (by omega) hr2)
            rw [← HV1.out] at h1
            rw [← h1]
            congr 1
            omega)
          obtain ⟨R2, hR2⟩ : ∃ R2 : Nat, (r : Int) + (A : Int) = (R2 : Int) := ⟨r + A, by omega⟩
          have hr3 : (4294967296 : Int) ≤ (R2 : Int) := by omega
          clear hr2
          go_wp2_with fail
          go_meet
          exact ⟨HF.out, rfl⟩
        · have HM2 : Hid (DigS A B U m1 (.int .u64 ((q : Int) - 1)) (.int .u64 ((r + A : Nat) : Int))) := Lib.hid ⟨q - 1, r + A, by congr 1; omega, rfl, by omega, Lib.hid HN.out.2⟩
          obtain ⟨R2, hR2⟩ : ∃ R2 : Nat, (r : Int) + (A : Int) = (R2 : Int) := ⟨r + A, by omega⟩
          have hr3 : decide ((4294967296 : Int) ≤ (R2 : Int)) = false := decide_eq_false (by omega)
          clear hr2
          go_wp2_with fail
          go_round
          case rel => rw [show (r + A : Nat) = R2 by omega] at HM2; exact HM2.out
          case measure => simp [intOf]; omega
      · have hP : q * B ≤ 4294967295 * 4294967295 := Nat.mul_le_mul (by omega) (by omega)
        have e8 : IntKind.u64.wrap ((q : Int) * (B : Int)) = ((q * B : Nat) : Int) := by rw [← Int.natCast_mul, wrapL _ (by omega)]
        have hbig' : (q : Int) < 4294967296 := by omega
        by_cases hgt : r * 4294967296 + m1 < q * B
        · have HN := Lib.hid (HD.out.down (by rw [← HY.out]; exact HUY.out) hm11 (.inr hgt))
          have hgt' : 4294967296 * (r : Int) + (m1 : Int) < ((q * B : Nat) : Int) := by omega
          clear hgt hbig hP
          generalize q * B = P at *
          have hq0 : (1 : Int) ≤ (q : Int) := by have := HN.out.1; omega
          by_cases hr2 : 4294967296 ≤ r + A
          · have HF : Hid (Value.int IntKind.u64 ((q : Int) - 1) = Value.int IntKind.u64 (D1 : Int)) := Lib.hid (by
              have h1 := HN.out.2.done hA0 (DigQ.past hB1 (by omega) hr2)
              rw [← HV1.out] at h1
              rw [← h1]
              congr 1
              omega)
            obtain ⟨R2, hR2⟩ : ∃ R2 : Nat, (r : Int) + (A : Int) = (R2 : Int) := ⟨r + A, by omega⟩
            have hr3 : (4294967296 : Int) ≤ (R2 : Int) := by omega
            clear hr2
            go_wp2_with fail
            go_meet
            exact ⟨HF.out, rfl⟩
          · have HM2 : Hid (DigS A B U m1 (.int .u64 ((q : Int) - 1)) (.int .u64 ((r + A : Nat) : Int))) := Lib.hid ⟨q - 1, r + A, by congr 1; omega, rfl, by omega, Lib.hid HN.out.2⟩
            obtain ⟨R2, hR2⟩ : ∃ R2 : Nat, (r : Int) + (A : Int) = (R2 : Int) := ⟨r + A, by omega⟩
            have hr3 : decide ((4294967296 : Int) ≤ (R2 : Int)) = false := decide_eq_false (by omega)
            clear hr2
            go_wp2_with fail
            go_round
            case rel => rw [show (r + A : Nat) = R2 by omega] at HM2; exact HM2.out
            case measure => simp [intOf]; omega
        · have HF : Hid (q = D1) := Lib.hid (by rw [HV1.out]; exact HD.out.done hA0 (by omega))
          obtain ⟨T, hT⟩ : ∃ T : Nat, 4294967296 * (r : Int) + (m1 : Int) = (T : Int) := ⟨r * 4294967296 + m1, by omega⟩
          have hgt' : decide (T < q * B) = false := decide_eq_false (by omega)
          have hbig2 : decide ((4294967296 : Int) ≤ (q : Int)) = false := decide_eq_false (by omega)
          clear hgt hbig hP hbig'
          generalize q * B = P at *
          go_wp2_with fail
          go_meet
          exact ⟨by rw [← HF.out], rfl⟩
  case rest =>
    obtain ⟨hq, hw⟩ := hcut
    subst hq
    subst hw
    have HVY := Lib.hid hvY
    obtain ⟨D0, hD0⟩ : ∃ D0, D0 = (V * 4294967296 + m0) / Y := ⟨_, rfl⟩
    have hd0 := digit_lt HVY.out hm01
    have hvE : (V * 4294967296 + m0) / Y = (V * 4294967296 + m0) / (A * 4294967296 + B) := by rw [← HY.out]
    rw [← hD0] at hd0 HT hvE
    have HV0 := Lib.hid hvE
    clear hvE hD0
    have hV64 : V < 18446744073709551616 := by omega
    clear e6 e7 hq2 hU64
    have hq1 : V / A < 18446744073709551616 := Nat.lt_of_le_of_lt (Nat.div_le_self _ _) hV64
    have hq3 : V % A < 4294967296 := by have := Nat.mod_lt V (show 0 < A by omega); omega
    have e6 : IntKind.u64.wrap ((V : Int) / (A : Int)) = ((V / A : Nat) : Int) := by
      rw [← Int.natCast_ediv, wrapL _ hq1]
    have e7 : IntKind.u64.wrap ((V : Int) - IntKind.u64.wrap (((V / A : Nat) : Int) * (A : Int))) = ((V % A : Nat) : Int) := by
      have h1 := Nat.div_add_mod V A
      rw [show ((V / A : Nat) : Int) * (A : Int) = ((A * (V / A) : Nat) : Int) by push_cast; rw [Int.mul_comm], ← wrapL V hV64]
      exact wrapD (by omega) (by omega) (by omega)
    have HD2 : Hid (DigQ A B V m0 (V / A) (V % A)) := Lib.hid (DigQ.start hA0 hB1 hm01 (by rw [← HY.out]; exact hvY))
    clear hvY hq1
    generalize V / A = q2 at *
    generalize V % A = r2 at *
    have HTI := Lib.hid (show (((hi * 18446744073709551616 + lo) / y : Nat) : Int) = (D1 : Int) * 4294967296 + (D0 : Int) by rw [HT.out, Int.natCast_add, Int.natCast_mul]; rfl)
    go_upto_block 2 with fail
    go_cut [18] from 102 to 120 (fun q wx => q = .int .u64 (D0 : Int) ∧ wx = wc)
    case first =>
      go_wp2_with fail
      go_loop [18, 16] (DigS A B V m0) (fun q _ => (intOf q).toNat)
      case atStart => exact ⟨q2, r2, rfl, rfl, hq3, HD2⟩
      case round =>
        clear e6 e7 hY1 hh h0 hl hm hq3 hd1 hd0
        obtain ⟨q, r, rfl, rfl, hr, HD⟩ := hrel
        have hqm : (q : Int) ≤ 4294967297 := by have := HD.out.2.2; omega
        have hr' : (r : Int) < 4294967296 := by omega
        clear hr
        by_cases hbig : 4294967296 ≤ q
        · have HN := Lib.hid (HD.out.down (by rw [← HY.out]; exact HVY.out) hm01 (.inl hbig))
          have hbig' : (4294967296 : Int) ≤ (q : Int) := by omega
          clear hbig
          have hq0 : (1 : Int) ≤ (q : Int) := by have := HN.out.1; omega
          by_cases hr2 : 4294967296 ≤ r + A
          · have HF : Hid (Value.int IntKind.u64 ((q : Int) - 1) = Value.int IntKind.u64 (D0 : Int)) := Lib.hid (by
              have h1 := HN.out.2.done hA0 (DigQ.past hB1 (by omega) hr2)
              rw [← HV0.out] at h1
              rw [← h1]
              congr 1
              omega)
            obtain ⟨R2, hR2⟩ : ∃ R2 : Nat, (r : Int) + (A : Int) = (R2 : Int) := ⟨r + A, by omega⟩
            have hr3 : (4294967296 : Int) ≤ (R2 : Int) := by omega
            clear hr2
            go_wp2_with fail
            go_meet
            exact ⟨HF.out, rfl⟩
          · have HM2 : Hid (DigS A B V m0 (.int .u64 ((q : Int) - 1)) (.int .u64 ((r + A : Nat) : Int))) := Lib.hid ⟨q - 1, r + A, by congr 1; omega, rfl, by omega, Lib.hid HN.out.2⟩
            obtain ⟨R2, hR2⟩ : ∃ R2 : Nat, (r : Int) + (A : Int) = (R2 : Int) := ⟨r + A, by omega⟩
            have hr3 : decide ((4294967296 : Int) ≤ (R2 : Int)) = false := decide_eq_false (by omega)
            clear hr2
            go_wp2_with fail
            go_round
            case rel => rw [show (r + A : Nat) = R2 by omega] at HM2; exact HM2.out
            case measure => simp [intOf]; omega
        · have hP : q * B ≤ 4294967295 * 4294967295 := Nat.mul_le_mul (by omega) (by omega)
          have e8 : IntKind.u64.wrap ((q : Int) * (B : Int)) = ((q * B : Nat) : Int) := by rw [← Int.natCast_mul, wrapL _ (by omega)]
          have hbig' : (q : Int) < 4294967296 := by omega
          by_cases hgt : r * 4294967296 + m0 < q * B
          · have HN := Lib.hid (HD.out.down (by rw [← HY.out]; exact HVY.out) hm01 (.inr hgt))
            have hgt' : 4294967296 * (r : Int) + (m0 : Int) < ((q * B : Nat) : Int) := by omega
            clear hgt hbig hP
            generalize q * B = P at *
            have hq0 : (1 : Int) ≤ (q : Int) := by have := HN.out.1; omega
            by_cases hr2 : 4294967296 ≤ r + A
            · have HF : Hid (Value.int IntKind.u64 ((q : Int) - 1) = Value.int IntKind.u64 (D0 : Int)) := Lib.hid (by
                have h1 := HN.out.2.done hA0 (DigQ.past hB1 (by omega) hr2)
                rw [← HV0.out] at h1
                rw [← h1]
                congr 1
                omega)
              obtain ⟨R2, hR2⟩ : ∃ R2 : Nat, (r : Int) + (A : Int) = (R2 : Int) := ⟨r + A, by omega⟩
              have hr3 : (4294967296 : Int) ≤ (R2 : Int) := by omega
              clear hr2
              go_wp2_with fail
              go_meet
              exact ⟨HF.out, rfl⟩
            · have HM2 : Hid (DigS A B V m0 (.int .u64 ((q : Int) - 1)) (.int .u64 ((r + A : Nat) : Int))) := Lib.hid ⟨q - 1, r + A, by congr 1; omega, rfl, by omega, Lib.hid HN.out.2⟩
              obtain ⟨R2, hR2⟩ : ∃ R2 : Nat, (r : Int) + (A : Int) = (R2 : Int) := ⟨r + A, by omega⟩
              have hr3 : decide ((4294967296 : Int) ≤ (R2 : Int)) = false := decide_eq_false (by omega)
              clear hr2
              go_wp2_with fail
              go_round
              case rel => rw [show (r + A : Nat) = R2 by omega] at HM2; exact HM2.out
              case measure => simp [intOf]; omega
          · have HF : Hid (q = D0) := Lib.hid (by rw [HV0.out]; exact HD.out.done hA0 (by omega))
            obtain ⟨T, hT⟩ : ∃ T : Nat, 4294967296 * (r : Int) + (m0 : Int) = (T : Int) := ⟨r * 4294967296 + m0, by omega⟩
            have hgt' : decide (T < q * B) = false := decide_eq_false (by omega)
            have hbig2 : decide ((4294967296 : Int) ≤ (q : Int)) = false := decide_eq_false (by omega)
            clear hgt hbig hP hbig'
            generalize q * B = P at *
            go_wp2_with fail
            go_meet
            exact ⟨by rw [← HF.out], rfl⟩
    case rest =>
      obtain ⟨hq, hw⟩ := hcut
      subst hq
      subst hw
      go_wp2_with fail
      go_ret2
      unfold QuoPost
      rw [HTI.out]
      exact ⟨⟨_, rfl⟩, 0, rfl⟩
theorem div64_any (hi lo y : Nat) (hh : hi < y) (hl : lo < 18446744073709551616) (hy : y < 18446744073709551616) (w : World) :
    Calls Tryz.prog 315 #[.int .u64 hi, .int .u64 lo, .int .u64 y] w (QuoPost ((hi * 18446744073709551616 + lo) / y) w) := by
  rcases Nat.eq_zero_or_pos hi with h0 | h0
  · subst h0
    rw [Nat.zero_mul, Nat.zero_add]
    exact div64_small lo y hh hl hy w
  · exact div64_big hi lo y hh h0 hl hy w

end Go.Proofs.YtehkknphcflofaaGreatDoor
