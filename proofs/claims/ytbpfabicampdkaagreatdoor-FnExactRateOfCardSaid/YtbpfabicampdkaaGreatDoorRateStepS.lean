/-
  Chapter 11 of package spec: the rate of one step (l10Step).
-/
import Derived.Test.YtbpfabicampdkaaGreatDoorRateStep
import Derived.Test.YtbpfabicampdkaaGreatDoorJB10
namespace Go.Proofs.YtbpfabicampdkaaGreatDoor
open Go.RowKit

theorem postn_isE {a b : Int} (h : a = b) {w w' : World} {e : Ending} (k : Postn a w e w') : Postn b w e w' := h ▸ k
theorem step_hit {l : List EI} {a b : ByteArray} {n : Nat} {x : EI} (h0 : 0 ≤ posE l a b) (h2 : l[n]? = some x) (h3 : atE l a b = n) : stepT l a b = ratD x.2.2 := by
  unfold stepT
  rw [if_pos h0, h3, h2]
theorem step_inv {l : List EI} {a b : ByteArray} {n : Nat} {x : EI} (hn : ¬ 0 ≤ posE l a b) (h2 : l[n]? = some x) (h3 : atE l b a = n) : stepT l a b = (divQ unitQ.1 (ratD x.2.2)).1 := by
  unfold stepT
  rw [if_neg hn, h3, h2]
theorem leg_inv {l : List EI} {a b : ByteArray} (hn : ¬ 0 ≤ posE l a b) (h : ¬ legT l a b = 0) : 0 ≤ posE l b a := by
  unfold legT at h
  rw [if_neg hn] at h
  split at h
  · assumption
  · exact absurd rfl h
theorem unitQ_szS : szQ unitQ.1 ≤ 1048576 := by unfold unitQ makeQ; split; exact lowQ_sz _ _ _; decide
theorem newVQ_chgS {R0 : QI} {S T : List Nat} {v : Value} {w W : World} (o : At S (OwnQ v R0) W) (hd : ∀ i ∈ S, i ∉ T) (hT : ∀ i ∈ T, w.heap.size ≤ i) (l : ∀ i ∈ S, w.heap.size ≤ i) (hW : Below w.heap.size w W) :
    ∀ W', Chg T W W' → NewV (fun u => OwnQ u R0) w (.returned v) W' :=
  fun _ hc => ⟨v, S, rfl, o.chg hc hd, fun i hi => ⟨l i hi, Nat.lt_of_lt_of_le (o.lt i hi) hc.size⟩, below_chg hW hc hW.size hT⟩
set_option maxHeartbeats 8000000 in
set_option maxRecDepth 100000 in
theorem l10Step_any (v : Value) (t : TI) (p q : ByteArray) (w : World) (hl : t.2.length ≤ 1099511627776) (hx : ∀ x ∈ t.2, x.2.2.1.2.length ≤ 1048576) (hg : ¬ legT t.2 p q = 0) (h : OwnTR w v t) :
    Calls Tryz.prog 79 #[v, .string p, .string q] w (NewV (fun u => OwnQ u (stepT t.2 p q)) w) := by
  obtain ⟨A, c, rfl, hr⟩ := ownTR_form h
  have HR := Lib.hid (show ∀ W, Below w.heap.size w W → OwnER W (.slice A t.2.length c) t.2 from fun W h => hr.below h)
  have HTR := Lib.hid (show ∀ W, Below w.heap.size w W → OwnTR W (.agg #[.string t.1, .slice A t.2.length c]) t from fun W h => ⟨_, rfl, hr.below h⟩)
  clear h hr
  obtain ⟨A', c', e', hc⟩ := HR.out w (Below.refl _ _)
  injection e' with e1 e2 e3
  subst e1
  clear e2 e3 c'
  have HC := Lib.hid hc
  clear hc
  have bb0 : Below w.heap.size w ((w.alloc (.cells #[.string t.1, .slice A t.2.length c] 25)).alloc (.cells #[.bool false, .slice none 0 0, .slice none 0 0] 32)) := below_al (below_al (Below.refl _ _) _) _
  have kt := (box_new w #[.string t.1, .slice A t.2.length c] 25).below (below_al (Below.refl _ _) (.cells #[.bool false, .slice none 0 0, .slice none 0 0] 32))
  have ko := (box_new (w.alloc (.cells #[.string t.1, .slice A t.2.length c] 25)) #[.bool false, .slice none 0 0, .slice none 0 0] 32)
  rw [show (w.alloc (.cells #[.string t.1, .slice A t.2.length c] 25)).heap.size = w.heap.size + 1 by simp] at ko
  obtain ⟨R, hR⟩ : ∃ R, stepT t.2 p q = R := ⟨_, rfl⟩
  have EQ := Lib.hid hR
  rw [hR]
  clear hR
  go_enter Tryz.func79, Tryz.ntmps79
  have kt_c0 := kt.here.cell 0 _ rfl
  have kt_c1 := kt.here.cell 1 _ rfl
  go_wp2_with fail
  clear kt_c0 kt_c1
  refine (l10At_any _ t.2 p q _ (by omega) (HR.out _ bb0)).mono ?_
  rintro e w1 ⟨rfl, b1⟩
  have hz1 : w.heap.size + 1 + 1 ≤ w1.heap.size := by have := b1.size; simp at this; omega
  have bb1 := Below.next bb0 b1
  replace kt := kt.below b1
  replace ko := ko.below b1
  by_cases h0 : 0 ≤ posE t.2 p q
  · obtain ⟨n, x, hpn, hxn, han⟩ := posE_at h0
    have HV := Lib.hid (EQ.out.symm.trans (step_hit h0 hxn han))
    rw [hpn]
    clear h0 hpn han EQ hg
    obtain ⟨a, ux, rfl, ha, hc0, hc1, hc2, hc3, hc4, hox⟩ := HC.out n x hxn
    obtain ⟨A1, c1, rfl⟩ := own_len hox
    have HOX := Lib.hid hox
    have hxl := hx x (List.mem_of_getElem? hxn)
    have HCC := Lib.hid (show ∀ W, Below w.heap.size w W → W.cell? ⟨(a.add (n * 5)).block, (a.add (n * 5)).off + 2, none⟩ = some (.bool x.2.2.1.1) ∧ W.cell? ⟨(a.add (n * 5)).block, (a.add (n * 5)).off + 3, none⟩ = some (.slice A1 x.2.2.1.2.length c1) ∧ W.cell? ⟨(a.add (n * 5)).block, (a.add (n * 5)).off + 4, none⟩ = some (.int .i64 x.2.2.2) from fun W hW => ⟨(cell_keep5 hW ha n 2).trans hc2, (cell_keep5 hW ha n 3).trans hc3, (cell_keep5 hW ha n 4).trans hc4⟩)
    have HOD := Lib.hid (show ∀ W, Below w.heap.size w W → OwnD (.agg #[.bool x.2.2.1.1, .slice A1 x.2.2.1.2.length c1, .int .i64 x.2.2.2]) x.2.2 W from fun W hW => OwnD.mk (own_below HOX.out hW))
    have hn0 : (0 : Int) ≤ (n : Int) := by omega
    have hnl := (List.getElem?_eq_some_iff.1 hxn).1
    have hn1 : (n : Int) < (t.2.length : Int) := by omega
    clear hc0 hc1 hc2 hc3 hc4 hox ha hxn hx
    have hd0 : decide ((0 : Int) ≤ (n : Int)) = true := decide_eq_true hn0
    obtain ⟨k2, k3, k4⟩ := HCC.out _ bb1
    have kt_c0 := kt.here.cell 0 _ rfl
    have kt_c1 := kt.here.cell 1 _ rfl
    go_wp2_with fail
    clear kt_c0 kt_c1
    refine (specDecRat_any _ x.2.2 _ hxl (HOD.out _ bb1)).mono ?_
    rintro e w2 ⟨uq, Sq, rfl, oq, lq, b2⟩
    obtain ⟨Aq, cq, Bq, dq, rfl⟩ := ownQ_form oq.here
    have bb2 := Below.next bb1 b2
    replace kt := kt.below b2
    replace ko := ko.below b2
    have HW := Lib.hid (newVQ_chgS (R0 := ratD x.2.2) (v := .agg #[.bool (ratD x.2.2).1.1, .slice Aq (ratD x.2.2).1.2.length cq, .slice Bq (ratD x.2.2).2.length dq]) (T := [w.heap.size + 1]) oq (fun i hi hm => by have := (lq i hi).1; simp at hm; omega) (fun i hi => by simp at hi; omega) (fun i hi => by have := (lq i hi).1; omega) bb2)
    have cz0 := ko.here.cell 0 _ rfl
    have fz0 := Lib.frozen_of_heap ko.here 0
    have cz1 := ko.here.cell 1 _ rfl
    have fz1 := Lib.frozen_of_heap ko.here 1
    have cz2 := ko.here.cell 2 _ rfl
    have fz2 := Lib.frozen_of_heap ko.here 2
    clear ko oq lq k2 k3 k4 kt
    go_wp2
    refine bodyPost_ret (v := .agg #[.bool (ratD x.2.2).1.1, .slice Aq (ratD x.2.2).1.2.length cq, .slice Bq (ratD x.2.2).2.length dq]) (by simp [results, Tryz.results79, go_sem, cz0, cz1, cz2]) rfl ?_
    rw [HV.out]
    refine HW.out _ ?_
    repeat (first | with_reducible exact Chg.refl _ _ | with_reducible refine Chg.setCell ?_ (by simp) _)
  · have hd0 : decide (0 ≤ posE t.2 p q) = false := decide_eq_false h0
    obtain ⟨n, x, hpn, hxn, han⟩ := posE_at (leg_inv h0 hg)
    have HV := Lib.hid (EQ.out.symm.trans (step_inv h0 hxn han))
    have HPN := Lib.hid hpn
    clear hpn han EQ hg h0
    generalize posE t.2 p q = z at *
    obtain ⟨a, ux, rfl, ha, hc0, hc1, hc2, hc3, hc4, hox⟩ := HC.out n x hxn
    obtain ⟨A1, c1, rfl⟩ := own_len hox
    have HOX := Lib.hid hox
    have hxl := hx x (List.mem_of_getElem? hxn)
    have HCC := Lib.hid (show ∀ W, Below w.heap.size w W → W.cell? ⟨(a.add (n * 5)).block, (a.add (n * 5)).off + 2, none⟩ = some (.bool x.2.2.1.1) ∧ W.cell? ⟨(a.add (n * 5)).block, (a.add (n * 5)).off + 3, none⟩ = some (.slice A1 x.2.2.1.2.length c1) ∧ W.cell? ⟨(a.add (n * 5)).block, (a.add (n * 5)).off + 4, none⟩ = some (.int .i64 x.2.2.2) from fun W hW => ⟨(cell_keep5 hW ha n 2).trans hc2, (cell_keep5 hW ha n 3).trans hc3, (cell_keep5 hW ha n 4).trans hc4⟩)
    have HOD := Lib.hid (show ∀ W, Below w.heap.size w W → OwnD (.agg #[.bool x.2.2.1.1, .slice A1 x.2.2.1.2.length c1, .int .i64 x.2.2.2]) x.2.2 W from fun W hW => OwnD.mk (own_below HOX.out hW))
    have hn0 : (0 : Int) ≤ (n : Int) := by omega
    have hnl := (List.getElem?_eq_some_iff.1 hxn).1
    have hn1 : (n : Int) < (t.2.length : Int) := by omega
    clear hc0 hc1 hc2 hc3 hc4 hox ha hxn hx
    go_wp2_with fail
    refine ((specIntOf_any 1 _ (by decide) (by decide)).mono fun _ _ h => NewS.newV h).mono ?_
    rintro e w2 ⟨ux, Sx, rfl, ox, lx, b2⟩
    obtain ⟨Ax, cx, rfl⟩ := ownS_form ox.here
    have hz2 := b2.size
    have bb2 := Below.next bb1 b2
    replace kt := kt.below b2
    replace ko := ko.below b2
    go_wp2_with fail
    refine (specRatInt_any _ (ofZ 1) _ one_szR ox.here).mono ?_
    rintro e w3 ⟨uq, Sq, rfl, oq, lq, b3⟩
    obtain ⟨Aq, cq, Bq, dq, rfl⟩ := ownQ_form oq.here
    have hz3 := b3.size
    have bb3 := Below.next bb2 b3
    replace kt := kt.below b3
    replace ko := ko.below b3
    replace ox := ox.below b3
    clear ox lx hd0
    have ku := box_new (w3) #[.bool (makeQ (ofZ 1) (ofZ 1)).1.1.1, .slice Aq (makeQ (ofZ 1) (ofZ 1)).1.1.2.length cq, .slice Bq (makeQ (ofZ 1) (ofZ 1)).1.2.length dq] 32
    have alu := below_al (Below.refl (w3).heap.size (w3)) (.cells #[.bool (makeQ (ofZ 1) (ofZ 1)).1.1.1, .slice Aq (makeQ (ofZ 1) (ofZ 1)).1.1.2.length cq, .slice Bq (makeQ (ofZ 1) (ofZ 1)).1.2.length dq] 32)
    have bbu := Below.next bb3 alu
    replace kt := kt.below alu
    replace ko := ko.below alu
    replace oq := oq.below alu
    go_upto_region 5 with fail
    obtain ⟨w4, hw4⟩ : ∃ W, W = (w3.alloc (.cells #[.bool (makeQ (ofZ 1) (ofZ 1)).1.1.1, .slice Aq (makeQ (ofZ 1) (ofZ 1)).1.1.2.length cq, .slice Bq (makeQ (ofZ 1) (ofZ 1)).1.2.length dq] 32)) := ⟨_, rfl⟩
    have hz4 : w3.heap.size + 1 = w4.heap.size := by rw [hw4]; simp
    rw [← hw4] at kt ko ku oq bbu ⊢
    clear hw4
    have HB2 := Lib.hid bbu
    obtain ⟨k2, k3, k4⟩ := HCC.out _ bbu
    have kt_c0 := kt.here.cell 0 _ rfl
    have kt_c1 := kt.here.cell 1 _ rfl
    have ku_c0 := ku.here.cell 0 _ rfl
    have ku_c1 := ku.here.cell 1 _ rfl
    have ku_c2 := ku.here.cell 2 _ rfl
    go_cut [10] (fun s wx => NewLocV 32 (fun v => OwnQ v (divQ unitQ.1 (ratD x.2.2)).1) w4 s wx)
    case first =>
      have HC0 := Lib.hid (show Chg [] w4 w4.drew from (Chg.refl _ _).drew1)
      have HCr := Lib.hid (show Chg [] w4 w4 from Chg.refl _ _)
      have KL := Lib.hid (show ∀ W, Chg [] w4 W → W.cell? ⟨w.heap.size, 0, none⟩ = some (.string t.1) ∧ W.cell? ⟨w.heap.size, 1, none⟩ = some (.slice (some a) t.2.length c) ∧ W.cell? ⟨w3.heap.size, 0, none⟩ = some (.bool (makeQ (ofZ 1) (ofZ 1)).1.1.1) ∧ W.cell? ⟨w3.heap.size, 1, none⟩ = some (.slice Aq (makeQ (ofZ 1) (ofZ 1)).1.1.2.length cq) ∧ W.cell? ⟨w3.heap.size, 2, none⟩ = some (.slice Bq (makeQ (ofZ 1) (ofZ 1)).1.2.length dq) ∧ W.cell? ⟨(a.add (n * 5)).block, (a.add (n * 5)).off + 2, none⟩ = some (.bool x.2.2.1.1) ∧ W.cell? ⟨(a.add (n * 5)).block, (a.add (n * 5)).off + 3, none⟩ = some (.slice A1 x.2.2.1.2.length c1) ∧ W.cell? ⟨(a.add (n * 5)).block, (a.add (n * 5)).off + 4, none⟩ = some (.int .i64 x.2.2.2) ∧ Hid (Chg [] w4 W) from fun W hc => ⟨(kt.chg hc (fun i hi hm => by simp at hm)).here.cell 0 _ rfl, (kt.chg hc (fun i hi hm => by simp at hm)).here.cell 1 _ rfl, (ku.chg hc (fun i hi hm => by simp at hm)).here.cell 0 _ rfl, (ku.chg hc (fun i hi hm => by simp at hm)).here.cell 1 _ rfl, (ku.chg hc (fun i hi hm => by simp at hm)).here.cell 2 _ rfl, (HCC.out W (below_chg HB2.out hc HB2.out.size (fun i hi => by simp at hi))).1, (HCC.out W (below_chg HB2.out hc HB2.out.size (fun i hi => by simp at hi))).2.1, (HCC.out W (below_chg HB2.out hc HB2.out.size (fun i hi => by simp at hi))).2.2, Lib.hid hc⟩)
      have BBF := Lib.hid (show ∀ W, Chg [] w4 W → Below w.heap.size w W from fun W hc => below_chg bbu hc bbu.size (fun i hi => by simp at hi))
      clear kt_c0 kt_c1 ku_c0 ku_c1 ku_c2
      go_region_held3 (fun W => W.cell? ⟨w.heap.size, 0, none⟩ = some (.string t.1) ∧ W.cell? ⟨w.heap.size, 1, none⟩ = some (.slice (some a) t.2.length c) ∧ W.cell? ⟨w3.heap.size, 0, none⟩ = some (.bool (makeQ (ofZ 1) (ofZ 1)).1.1.1) ∧ W.cell? ⟨w3.heap.size, 1, none⟩ = some (.slice Aq (makeQ (ofZ 1) (ofZ 1)).1.1.2.length cq) ∧ W.cell? ⟨w3.heap.size, 2, none⟩ = some (.slice Bq (makeQ (ofZ 1) (ofZ 1)).1.2.length dq) ∧ W.cell? ⟨(a.add (n * 5)).block, (a.add (n * 5)).off + 2, none⟩ = some (.bool x.2.2.1.1) ∧ W.cell? ⟨(a.add (n * 5)).block, (a.add (n * 5)).off + 3, none⟩ = some (.slice A1 x.2.2.1.2.length c1) ∧ W.cell? ⟨(a.add (n * 5)).block, (a.add (n * 5)).off + 4, none⟩ = some (.int .i64 x.2.2.2) ∧ Hid (Chg [] w4 W))
        ((refine KL.out _ ?_; (first | exact HC7.out | exact HC6.out | exact HC5.out | exact HCr.out | exact HC0.out | exact HC7.out.drew1 | exact HC6.out.drew1 | exact HC5.out.drew1 | exact HCr.out.drew1 | exact HC0.out.drew1 | exact HC7.out.trans (Chg.of_below (below_al (Below.refl _ _) _)) | exact HC6.out.trans (Chg.of_below (below_al (Below.refl _ _) _)) | exact HC5.out.trans (Chg.of_below (below_al (Below.refl _ _) _)) | exact HCr.out.trans (Chg.of_below (below_al (Below.refl _ _) _)) | exact HC0.out.trans (Chg.of_below (below_al (Below.refl _ _) _)) | exact (Chg.setNew HC7.out (by first | exact HC7.out.size | exact HC6.out.size | exact HC5.out.size | exact HCr.out.size | exact HC0.out.size) _) | exact (Chg.setNew (Chg.setNew HC7.out (by first | exact HC7.out.size | exact HC6.out.size | exact HC5.out.size | exact HCr.out.size | exact HC0.out.size) _) (by first | exact HC7.out.size | exact HC6.out.size | exact HC5.out.size | exact HCr.out.size | exact HC0.out.size) _) | exact (Chg.setNew (Chg.setNew (Chg.setNew HC7.out (by first | exact HC7.out.size | exact HC6.out.size | exact HC5.out.size | exact HCr.out.size | exact HC0.out.size) _) (by first | exact HC7.out.size | exact HC6.out.size | exact HC5.out.size | exact HCr.out.size | exact HC0.out.size) _) (by first | exact HC7.out.size | exact HC6.out.size | exact HC5.out.size | exact HCr.out.size | exact HC0.out.size) _) | fail)))
        (first
          | (go_at_call 132; (have hBB := (‹_ ∧ _ ∧ _ ∧ _ ∧ _ ∧ _ ∧ _ ∧ _ ∧ Hid (Chg [] w4 _)›).2.2.2.2.2.2.2.2); (with_reducible refine ((l10At_any _ t.2 q p _ (by omega) (HR.out _ (BBF.out _ hBB.out))).mono fun _ _ h => postn_isE HPN.out h).mono ?_); rintro e w5 ⟨rfl, b5⟩; have HC5 := Lib.hid (hBB.out.trans (Chg.of_below b5)); (have oq_5 := At.below (by first | exact oq | exact At.below oq (below_al (Below.refl _ _) _) | exact At.below (At.below oq (below_al (Below.refl _ _) _)) (below_al (Below.refl _ _) _) | exact At.move oq (fun _ _ => rfl) (Nat.le_refl _) | exact At.below (At.move (w' := w4.drew) oq (fun _ _ => rfl) (Nat.le_refl _)) (below_al (Below.refl _ _) _)) b5); (first | (have early5 : At [w4.heap.size] (BoxAt w4.heap.size #[.bool false, .slice none 0 0, .slice none 0 0] 32) w5 := At.below (box_new w4.drew _ _) b5) | (have early5 := At.below (box_new _ #[.bool false, .slice none 0 0, .slice none 0 0] 32) b5) | (have early5 := At.below early4 b5) | skip); have HBZ5 := Lib.hid hBB.out.size; clear hBB)
          | (go_at_call 137; (have hBB := (‹_ ∧ _ ∧ _ ∧ _ ∧ _ ∧ _ ∧ _ ∧ _ ∧ Hid (Chg [] w4 _)›).2.2.2.2.2.2.2.2); (with_reducible refine (specDecRat_any _ x.2.2 _ hxl (HOD.out _ (BBF.out _ hBB.out))).mono ?_); rintro e w6 ⟨ud, Sd, rfl, od, ld, b6⟩; have HC6 := Lib.hid (hBB.out.trans (Chg.of_below b6)); (have oq_6 := At.below (by first | exact oq_5 | exact At.below oq_5 (below_al (Below.refl _ _) _) | exact At.below (At.below oq_5 (below_al (Below.refl _ _) _)) (below_al (Below.refl _ _) _) | exact At.move oq_5 (fun _ _ => rfl) (Nat.le_refl _) | exact At.below (At.move (w' := w4.drew) oq_5 (fun _ _ => rfl) (Nat.le_refl _)) (below_al (Below.refl _ _) _)) b6); obtain ⟨Ad, cd, Bd_, dd, rfl⟩ := ownQ_form od.here; (first | (have early6 : At [w4.heap.size] (BoxAt w4.heap.size #[.bool false, .slice none 0 0, .slice none 0 0] 32) w6 := At.below (box_new w4.drew _ _) b6) | (have early6 := At.below (box_new _ #[.bool false, .slice none 0 0, .slice none 0 0] 32) b6) | (have early6 := At.below early5 b6) | skip); have HBZ6 := Lib.hid hBB.out.size; clear hBB)
          | (go_at_call 138; (have hBB := (‹_ ∧ _ ∧ _ ∧ _ ∧ _ ∧ _ ∧ _ ∧ _ ∧ Hid (Chg [] w4 _)›).2.2.2.2.2.2.2.2); (with_reducible refine (specRatDiv_any _ _ unitQ.1 (ratD x.2.2) _ unitQ_szS (ratD_sz _) (At.here (by first | exact oq_6 | exact At.below oq_6 (below_al (Below.refl _ _) _) | exact At.below (At.below oq_6 (below_al (Below.refl _ _) _)) (below_al (Below.refl _ _) _) | exact At.move oq_6 (fun _ _ => rfl) (Nat.le_refl _) | exact At.below (At.move (w' := w4.drew) oq_6 (fun _ _ => rfl) (Nat.le_refl _)) (below_al (Below.refl _ _) _))) (At.here (by first | exact od | exact At.below od (below_al (Below.refl _ _) _) | exact At.below (At.below od (below_al (Below.refl _ _) _)) (below_al (Below.refl _ _) _) | exact At.move od (fun _ _ => rfl) (Nat.le_refl _) | exact At.below (At.move (w' := w4.drew) od (fun _ _ => rfl) (Nat.le_refl _)) (below_al (Below.refl _ _) _)))).mono ?_); rintro e w7 ⟨uv, Sv, rfl, ov, lv, b7⟩; have HC7 := Lib.hid (hBB.out.trans (Chg.of_below b7)); (have oq_7 := At.below (by first | exact oq_6 | exact At.below oq_6 (below_al (Below.refl _ _) _) | exact At.below (At.below oq_6 (below_al (Below.refl _ _) _)) (below_al (Below.refl _ _) _) | exact At.move oq_6 (fun _ _ => rfl) (Nat.le_refl _) | exact At.below (At.move (w' := w4.drew) oq_6 (fun _ _ => rfl) (Nat.le_refl _)) (below_al (Below.refl _ _) _)) b7); (have od_7 := At.below (by first | exact od | exact At.below od (below_al (Below.refl _ _) _) | exact At.below (At.below od (below_al (Below.refl _ _) _)) (below_al (Below.refl _ _) _) | exact At.move od (fun _ _ => rfl) (Nat.le_refl _) | exact At.below (At.move (w' := w4.drew) od (fun _ _ => rfl) (Nat.le_refl _)) (below_al (Below.refl _ _) _)) b7); obtain ⟨Av, cv, Bv, dv, rfl⟩ := ownQ_form ov.here; (first | have hbxg := At.below_lt (box_new _ #[.bool false, .slice none 0 0, .slice none 0 0] 32) b7 | have hbxg := At.below_lt early6 b7 | skip); (try (have hbxf := hbxg.1; have HGB := Lib.hid hbxg.2; clear hbxg)); (try (have cz0 := hbxf.here.cell 0 _ rfl; have fz0 := Lib.frozen_of_heap hbxf.here 0; have cz1 := hbxf.here.cell 1 _ rfl; have fz1 := Lib.frozen_of_heap hbxf.here 1; have cz2 := hbxf.here.cell 2 _ rfl; have fz2 := Lib.frozen_of_heap hbxf.here 2)); have HBZ7 := Lib.hid hBB.out.size; clear hBB))
      all_goals (go_wp2_with fail; go_meet; first | exact newLocV_last ov lv HBZ7.out (below_of_chg HC7.out) | exact newLocV_early3 hbxf.here ov lv (by first | exact HC6.out.size | exact HC5.out.size | exact HCr.out.size | exact HC0.out.size) HGB.out (below_of_chg HC7.out))
    rename World => w5
    clear kt_c0 kt_c1 ku_c0 ku_c1 ku_c2
    obtain ⟨gv, csv, Sv, rfl, kv, ov, nv, lv, b5⟩ := hcut
    obtain ⟨Av, cv, Bv, dv, ev⟩ := ownQ_form ov.here
    injection ev with ev
    subst ev
    have bb5 := Below.next bbu b5
    replace kt := kt.below b5
    replace ko := ko.below b5
    replace oq := oq.below b5
    replace ku := ku.below b5
    have hzl := b5.size
    have HW := Lib.hid (newVQ_chgS (R0 := (divQ unitQ.1 (ratD x.2.2)).1) (v := .agg #[.bool (divQ unitQ.1 (ratD x.2.2)).1.1.1, .slice Av (divQ unitQ.1 (ratD x.2.2)).1.1.2.length cv, .slice Bv (divQ unitQ.1 (ratD x.2.2)).1.2.length dv]) (T := [w.heap.size + 1]) ov (fun i hi hm => by have := (lv i (List.mem_cons_of_mem _ hi)).1; simp at hm; omega) (fun i hi => by simp at hi; omega) (fun i hi => by have := (lv i (List.mem_cons_of_mem _ hi)).1; omega) bb5)
    have cz0 := ko.here.cell 0 _ rfl
    have fz0 := Lib.frozen_of_heap ko.here 0
    have cz1 := ko.here.cell 1 _ rfl
    have fz1 := Lib.frozen_of_heap ko.here 1
    have cz2 := ko.here.cell 2 _ rfl
    have fz2 := Lib.frozen_of_heap ko.here 2
    have cp0 := kv.here.cell 0 _ rfl
    have cp1 := kv.here.cell 1 _ rfl
    have cp2 := kv.here.cell 2 _ rfl
    clear kv k2 k3 k4
    clear ko ov lv oq kt ku
    go_wp2
    refine bodyPost_ret (v := .agg #[.bool (divQ unitQ.1 (ratD x.2.2)).1.1.1, .slice Av (divQ unitQ.1 (ratD x.2.2)).1.1.2.length cv, .slice Bv (divQ unitQ.1 (ratD x.2.2)).1.2.length dv]) (by simp [results, Tryz.results79, go_sem, cz0, cz1, cz2]) rfl ?_
    rw [HV.out]
    refine HW.out _ ?_
    repeat (first | with_reducible exact Chg.refl _ _ | with_reducible refine Chg.setCell ?_ (by simp) _)
end Go.Proofs.YtbpfabicampdkaaGreatDoor
