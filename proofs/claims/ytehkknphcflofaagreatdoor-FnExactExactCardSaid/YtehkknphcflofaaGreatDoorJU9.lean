/-
  RateFindI, RateMap, RateDifferI, RatesOkI, RateFindI2, CurUnitI, SignedArg, RateArg, MoneyImpl, MoneyRatI, MoneyArg, RatSub, RestSpec, RatMoneyS, RestImpl
-/
import Derived.Maps.RangeWalk
import Derived.WideKeyEntry
import Derived.DeepKeys4
import Derived.Carry
import Derived.Deep.RegionHeld3
import Derived.Deep.DeepCutAuto
import Derived.Lib.SmallJoins
import Derived.ChangeArms
import Derived.Deep.Strs
import Derived.Test.YtehkknphcflofaaGreatDoorJU8
namespace Go.Proofs.YtehkknphcflofaaGreatDoor
open Go.RowKit

/-- what a call answers: a new fraction and an int -/
def PostQn (R0 : QI) (R1 : Int) (w : World) (e : Ending) (w' : World) : Prop :=
  ∃ (v : Value) (S : List Nat), e = .returned (.tuple #[v, .int .i64 R1]) ∧ At S (OwnQ v R0) w' ∧ Within S w.heap.size w'.heap.size ∧ Below w.heap.size w w'
theorem postQn_is {q : QI × Int} {X : QI} {b : Int} (e : q = (X, b)) {w w' : World} {n : Ending} (h : PostQn q.1 q.2 w n w') : PostQn X b w n w' := by rw [e] at h; exact h
theorem newQn_chg {R0 : QI} {R1 : Int} {S T : List Nat} {v : Value} {w W : World} (o : At S (OwnQ v R0) W) (hd : ∀ i ∈ S, i ∉ T) (hT : ∀ i ∈ T, w.heap.size ≤ i) (l : ∀ i ∈ S, w.heap.size ≤ i) (hW : Below w.heap.size w W) :
    ∀ W', Chg T W W' → PostQn R0 R1 w (.returned (.tuple #[v, .int .i64 R1])) W' :=
  fun _ hc => ⟨v, S, rfl, o.chg hc hd, fun i hi => ⟨l i hi, Nat.lt_of_lt_of_le (o.lt i hi) hc.size⟩, below_chg hW hc hW.size hT⟩
theorem newQb_chg {R0 : QI} {R1 : Bool} {S T : List Nat} {v : Value} {w W : World} (o : At S (OwnQ v R0) W) (hd : ∀ i ∈ S, i ∉ T) (hT : ∀ i ∈ T, w.heap.size ≤ i) (l : ∀ i ∈ S, w.heap.size ≤ i) (hW : Below w.heap.size w W) :
    ∀ W', Chg T W W' → PostQb R0 R1 w (.returned (.tuple #[v, .bool R1])) W' :=
  fun _ hc => ⟨v, S, rfl, o.chg hc hd, fun i hi => ⟨l i hi, Nat.lt_of_lt_of_le (o.lt i hi) hc.size⟩, below_chg hW hc hW.size hT⟩
theorem newVQ_chg {R0 : QI} {S T : List Nat} {v : Value} {w W : World} (o : At S (OwnQ v R0) W) (hd : ∀ i ∈ S, i ∉ T) (hT : ∀ i ∈ T, w.heap.size ≤ i) (l : ∀ i ∈ S, w.heap.size ≤ i) (hW : Below w.heap.size w W) :
    ∀ W', Chg T W W' → NewV (fun u => OwnQ u R0) w (.returned v) W' :=
  fun _ hc => ⟨v, S, rfl, o.chg hc hd, fun i hi => ⟨l i hi, Nat.lt_of_lt_of_le (o.lt i hi) hc.size⟩, below_chg hW hc hW.size hT⟩
theorem newQn_zero {T : List Nat} {w W : World} (hT : ∀ i ∈ T, w.heap.size ≤ i) (hW : Below w.heap.size w W) : ∀ W', Chg T W W' → PostQn zeroQ 0 w (.returned (.tuple #[.agg #[.bool false, .slice none 0 0, .slice none 0 0], .int .i64 0])) W' :=
  fun _ hc => ⟨_, [], rfl, ⟨ownQ_zero _, (fun g hg => by cases hg), fun w' _ => ownQ_zero _⟩, (fun g hg => by cases hg), below_chg hW hc hW.size hT⟩
theorem storeT_sz (l : List EI) (a b : ByteArray) : szQ (storeT l a b).1 ≤ 1048576 := by
  unfold storeT
  split
  · exact zeroQ_sz
  · exact stepT_sz _ _ _
theorem storeT_zero {l : List EI} {a b : ByteArray} : (storeT l a b).2 = 0 ↔ legT l a b = 0 := by
  unfold storeT
  split
  · rename_i h
    exact ⟨fun _ => h, fun _ => rfl⟩
  · exact Iff.rfl
theorem storeT_yes {l : List EI} {a b : ByteArray} (h : ¬ legT l a b = 0) : storeT l a b = (stepT l a b, legT l a b) := by unfold storeT; rw [if_neg h]
theorem pivT_of {t : TI} {a b : ByteArray} {X Y : QI} {x y : Int} (h1 : storeT t.2 a t.1 = (X, x)) (h2 : storeT t.2 t.1 b = (Y, y)) : pivT t a b = if x = 0 ∨ y = 0 then (zeroQ, 0) else ((mulQ X Y).1, 4) := by
  have e1 : (storeT t.2 a t.1).2 = x := by rw [h1]
  have e2 : (storeT t.2 t.1 b).2 = y := by rw [h2]
  have q1 : x = 0 ↔ legT t.2 a t.1 = 0 := by rw [← e1]; exact storeT_zero
  have q2 : y = 0 ↔ legT t.2 t.1 b = 0 := by rw [← e2]; exact storeT_zero
  unfold pivT
  by_cases h : x = 0 ∨ y = 0
  · rw [if_pos h, if_pos (h.imp q1.1 q2.1)]
  · rw [if_neg h, if_neg (fun hh => h (hh.imp q1.2 q2.2))]
    rw [storeT_yes (fun e => h (.inl (q1.2 e)))] at h1
    rw [storeT_yes (fun e => h (.inr (q2.2 e)))] at h2
    have e3 : stepT t.2 a t.1 = X := congrArg Prod.fst h1
    have e4 : stepT t.2 t.1 b = Y := congrArg Prod.fst h2
    rw [e3, e4]
theorem findT_of {t : TI} {a b : ByteArray} {X : QI} {x : Int} (h : okT t = true ∧ knownC a = true ∧ knownC b = true) (hab : ¬ a = b) (h1 : storeT t.2 a b = (X, x)) : findT t a b = if x = 0 then pivT t a b else (X, x) := by
  have e1 : (storeT t.2 a b).2 = x := by rw [h1]
  have q1 : x = 0 ↔ legT t.2 a b = 0 := by rw [← e1]; exact storeT_zero
  unfold findT
  rw [if_pos h, if_neg hab]
  by_cases hx : x = 0
  · rw [if_pos hx, if_pos (q1.1 hx)]
  · rw [if_neg hx, if_neg (fun hh => hx (q1.2 hh)), ← storeT_yes (fun hh => hx (q1.2 hh)), h1]
theorem store_hit {l : List EI} {a b : ByteArray} {n : Nat} {x : EI} (h0 : 0 ≤ posE l a b) (h2 : l[n]? = some x) (h3 : atE l a b = n) : storeT l a b = (ratD x.2.2, 2) := by
  have e : legT l a b = 2 := by unfold legT; rw [if_pos h0]
  rw [storeT_yes (by omega), e]
  unfold stepT
  rw [if_pos h0, h3, h2]
theorem store_inv {l : List EI} {a b : ByteArray} {n : Nat} {x : EI} (hn : ¬ 0 ≤ posE l a b) (h0 : 0 ≤ posE l b a) (h2 : l[n]? = some x) (h3 : atE l b a = n) : storeT l a b = ((divQ unitQ.1 (ratD x.2.2)).1, 3) := by
  have e : legT l a b = 3 := by unfold legT; rw [if_neg hn, if_pos h0]
  rw [storeT_yes (by omega), e]
  unfold stepT
  rw [if_neg hn, h3, h2]
theorem store_none {l : List EI} {a b : ByteArray} (hn : ¬ 0 ≤ posE l a b) (h0 : ¬ 0 ≤ posE l b a) : storeT l a b = (zeroQ, 0) := by
  have e : legT l a b = 0 := by unfold legT; rw [if_neg hn, if_neg h0]
  unfold storeT
  rw [if_pos e]
theorem unitQ_sz : szQ unitQ.1 ≤ 1048576 := by rw [unit_low]; exact lowQ_sz _ _ _
set_option maxHeartbeats 2000000 in
set_option maxRecDepth 100000 in
theorem unitRat_any (w : World) (hsen : Sen w) :
    Calls Tryz.prog 145 #[] w (NewV (fun v => OwnQ v unitQ.1) w) := by
  have HS := Lib.hid hsen
  clear hsen
  have bb0 : Below w.heap.size w (w.alloc (.cells #[.bool false, .slice none 0 0, .slice none 0 0] 36)) := below_al (Below.refl _ _) _
  have ko := (box_new w #[.bool false, .slice none 0 0, .slice none 0 0] 36)
  have HKO := Lib.hid (ko.lt w.heap.size (by simp))
  go_enter Tryz.func145, Tryz.ntmps145
  go_wp2_with fail
  refine ((implIntOf_any 1 _ (by decide) (by decide)).mono fun _ _ h => NewS.newV h).mono ?_
  rintro e w1 ⟨u, Sx, rfl, ox, lx, b1⟩
  obtain ⟨Ax, cx, rfl⟩ := ownS_form ox.here
  have bb1 := Below.next bb0 b1
  replace ko := ko.below b1
  go_wp2_with fail
  refine (implRatInt_any _ (ofZ 1) _ one_szR ox.here (HS.out.below bb1)).mono ?_
  rintro e w2 ⟨uq, Sq, rfl, oq, lq, b2⟩
  obtain ⟨Aq, cq, Bq, dq, rfl⟩ := ownQ_form oq.here
  have bb2 := Below.next bb1 b2
  replace ko := ko.below b2
  replace ox := ox.below b2
  have hz1 : w.heap.size + 1 ≤ w1.heap.size := by have := b1.size; simp at this; omega
  have hz2 := b2.size
  have oqP := oq
  have cy0 := ko.here.cell 0 _ rfl
  have fy0 := Lib.frozen_of_heap ko.here 0
  have cy1 := ko.here.cell 1 _ rfl
  have fy1 := Lib.frozen_of_heap ko.here 1
  have cy2 := ko.here.cell 2 _ rfl
  have fy2 := Lib.frozen_of_heap ko.here 2
  have hlo : w.heap.size < w2.heap.size := by omega
  have hlo1 : ¬ w.heap.size = w2.heap.size := by omega
  have hlo2 : ¬ w2.heap.size = w.heap.size := by omega
  have kp := box_new (w2) #[.bool (makeQ (ofZ 1) (ofZ 1)).1.1.1, .slice Aq (makeQ (ofZ 1) (ofZ 1)).1.1.2.length cq, .slice Bq (makeQ (ofZ 1) (ofZ 1)).1.2.length dq] 36
  have alp := below_al (Below.refl (w2).heap.size (w2)) (.cells #[.bool (makeQ (ofZ 1) (ofZ 1)).1.1.1, .slice Aq (makeQ (ofZ 1) (ofZ 1)).1.1.2.length cq, .slice Bq (makeQ (ofZ 1) (ofZ 1)).1.2.length dq] 36)
  have bbp := Below.next bb2 alp
  replace ko := ko.below alp
  replace ox := ox.below alp
  replace oq := oq.below alp
  have HW := Lib.hid (newVQ_chg (R0 := unitQ.1) (v := .agg #[.bool (makeQ (ofZ 1) (ofZ 1)).1.1.1, .slice Aq (makeQ (ofZ 1) (ofZ 1)).1.1.2.length cq, .slice Bq (makeQ (ofZ 1) (ofZ 1)).1.2.length dq]) (T := [w.heap.size]) oqP (fun i hi hm => by have := (lq i hi).1; simp at hm; omega) (fun i hi => by simp at hi; omega) (fun i hi => by have := (lq i hi).1; omega) bb2)
  clear kp
  clear ko ox oq oqP lq lx
  go_wp2
  refine bodyPost_ret (v := .agg #[.bool (makeQ (ofZ 1) (ofZ 1)).1.1.1, .slice Aq (makeQ (ofZ 1) (ofZ 1)).1.1.2.length cq, .slice Bq (makeQ (ofZ 1) (ofZ 1)).1.2.length dq]) (by simp [results, Tryz.results145, go_sem, cy0, cy1, cy2, hlo]) rfl ?_
  refine HW.out _ ?_
  repeat (first | with_reducible exact Chg.refl _ _ | with_reducible refine Chg.setCell ?_ (by simp) _ | with_reducible refine Chg.trans ?_ (Chg.of_below (below_al (Below.refl _ _) _)))
set_option maxHeartbeats 8000000 in
set_option maxRecDepth 100000 in
theorem storedRate_any (v : Value) (l : List EI) (p q : ByteArray) (w : World) (hl : l.length ≤ 1099511627776) (hx : ∀ x ∈ l, x.2.2.1.2.length ≤ 1048576) (h : OwnER w v l) (hsen : Sen w) :
    Calls Tryz.prog 146 #[v, .string p, .string q] w (PostQn (storeT l p q).1 (storeT l p q).2 w) := by
  have HS := Lib.hid hsen
  clear hsen
  have HR := Lib.hid (show ∀ W, Below w.heap.size w W → OwnER W v l from fun W hb => h.below hb)
  obtain ⟨A, c, rfl, hc⟩ := h
  have HC := Lib.hid hc
  clear hc
  have bb0 : Below w.heap.size w (w.alloc (.cells #[.bool false, .slice none 0 0, .slice none 0 0] 36)) := below_al (Below.refl _ _) _
  have ko := (box_new w #[.bool false, .slice none 0 0, .slice none 0 0] 36)
  have HKO := Lib.hid (ko.lt w.heap.size (by simp))
  obtain ⟨R, hR⟩ : ∃ R, storeT l p q = R := ⟨_, rfl⟩
  have EQ := Lib.hid hR
  rw [hR]
  clear hR
  go_enter Tryz.func146, Tryz.ntmps146
  go_wp2_with fail
  refine (rateAt_any _ l p q _ (by omega) (HR.out _ bb0).rd).mono ?_
  rintro e w1 ⟨rfl, b1⟩
  have bb1 := Below.next bb0 b1
  replace ko := ko.below b1
  have hw1 : w.heap.size + 1 ≤ w1.heap.size := by have := b1.size; simp at this; omega
  by_cases h0 : 0 ≤ posE l p q
  · obtain ⟨n, x, hpn, hxn, han⟩ := posE_at h0
    have HV := Lib.hid (EQ.out.symm.trans (store_hit h0 hxn han))
    rw [hpn]
    clear h0 hpn han EQ
    obtain ⟨a, ux, rfl, ha, hc0, hc1, hc2, hc3, hc4, hox⟩ := HC.out n x hxn
    obtain ⟨A1, c1, rfl⟩ := own_len hox
    have HOX := Lib.hid hox
    have hxl := hx x (List.mem_of_getElem? hxn)
    have HCC := Lib.hid (show ∀ W, Below w.heap.size w W → W.cell? ⟨(a.add (n * 5)).block, (a.add (n * 5)).off + 2, none⟩ = some (.bool x.2.2.1.1) ∧ W.cell? ⟨(a.add (n * 5)).block, (a.add (n * 5)).off + 3, none⟩ = some (.slice A1 x.2.2.1.2.length c1) ∧ W.cell? ⟨(a.add (n * 5)).block, (a.add (n * 5)).off + 4, none⟩ = some (.int .i64 x.2.2.2) from fun W hW => ⟨(cell_keep5 hW ha n 2).trans hc2, (cell_keep5 hW ha n 3).trans hc3, (cell_keep5 hW ha n 4).trans hc4⟩)
    have HOD := Lib.hid (show ∀ W, Below w.heap.size w W → OwnD (.agg #[.bool x.2.2.1.1, .slice A1 x.2.2.1.2.length c1, .int .i64 x.2.2.2]) x.2.2 W from fun W hW => OwnD.mk (own_below HOX.out hW))
    have hn0 : (0 : Int) ≤ (n : Int) := by omega
    have hnl := (List.getElem?_eq_some_iff.1 hxn).1
    have hn1 : (n : Int) < (l.length : Int) := by omega
    clear hc0 hc1 hc2 hc3 hc4 hox ha hxn hx
    have hd0 : decide ((0 : Int) ≤ (n : Int)) = true := decide_eq_true hn0
    obtain ⟨k2, k3, k4⟩ := HCC.out _ bb1
    go_wp2_with fail
    refine (implDecRat_any _ x.2.2 _ hxl (HOD.out _ bb1) (HS.out.below bb1)).mono ?_
    rintro e w2 ⟨uq, Sq, rfl, oq, lq, b2⟩
    obtain ⟨Aq, cq, Bq, dq, rfl⟩ := ownQ_form oq.here
    have bb2 := Below.next bb1 b2
    replace ko := ko.below b2
    have HW := Lib.hid (newQn_chg (R0 := ratD x.2.2) (R1 := 2) (v := .agg #[.bool (ratD x.2.2).1.1, .slice Aq (ratD x.2.2).1.2.length cq, .slice Bq (ratD x.2.2).2.length dq]) (T := [w.heap.size]) oq (fun i hi hm => by have := (lq i hi).1; simp at hm; omega) (fun i hi => by simp at hi; omega) (fun i hi => by have := (lq i hi).1; omega) bb2)
    have cz0 := ko.here.cell 0 _ rfl
    have fz0 := Lib.frozen_of_heap ko.here 0
    have cz1 := ko.here.cell 1 _ rfl
    have fz1 := Lib.frozen_of_heap ko.here 1
    have cz2 := ko.here.cell 2 _ rfl
    have fz2 := Lib.frozen_of_heap ko.here 2
    clear ko oq lq k2 k3 k4
    go_wp2
    refine bodyPost_ret (v := .tuple #[.agg #[.bool (ratD x.2.2).1.1, .slice Aq (ratD x.2.2).1.2.length cq, .slice Bq (ratD x.2.2).2.length dq], .int .i64 2]) (by simp [results, Tryz.results146, go_sem, cz0, cz1, cz2]) rfl ?_
    rw [show R.1 = ratD x.2.2 by rw [HV.out], show R.2 = 2 by rw [HV.out]]
    refine HW.out _ ?_
    repeat (first | with_reducible exact Chg.refl _ _ | with_reducible refine Chg.setCell ?_ (by simp) _ | with_reducible refine Chg.trans ?_ (Chg.of_below (below_al (Below.refl _ _) _)))
  · have hd0 : decide (0 ≤ posE l p q) = false := decide_eq_false h0
    have HN := Lib.hid (show ¬ 0 ≤ posE l p q from h0)
    generalize hzz : posE l p q = z at hd0 ⊢
    have HZ := Lib.hid hzz
    clear hzz h0
    go_wp2_with fail
    refine (rateAt_any _ l q p _ (by omega) (HR.out _ bb1).rd).mono ?_
    rintro e w2 ⟨rfl, b2⟩
    have bb2 := Below.next bb1 b2
    replace ko := ko.below b2
    have hw2 := b2.size
    clear hd0
    by_cases h1 : 0 ≤ posE l q p
    · obtain ⟨n, x, hpn, hxn, han⟩ := posE_at h1
      have HV := Lib.hid (EQ.out.symm.trans (store_inv (by have := HN.out; omega) h1 hxn han))
      rw [hpn]
      clear h1 hpn han EQ
      obtain ⟨a, ux, rfl, ha, hc0, hc1, hc2, hc3, hc4, hox⟩ := HC.out n x hxn
      obtain ⟨A1, c1, rfl⟩ := own_len hox
      have HOX := Lib.hid hox
      have hxl := hx x (List.mem_of_getElem? hxn)
      have HCC := Lib.hid (show ∀ W, Below w.heap.size w W → W.cell? ⟨(a.add (n * 5)).block, (a.add (n * 5)).off + 2, none⟩ = some (.bool x.2.2.1.1) ∧ W.cell? ⟨(a.add (n * 5)).block, (a.add (n * 5)).off + 3, none⟩ = some (.slice A1 x.2.2.1.2.length c1) ∧ W.cell? ⟨(a.add (n * 5)).block, (a.add (n * 5)).off + 4, none⟩ = some (.int .i64 x.2.2.2) from fun W hW => ⟨(cell_keep5 hW ha n 2).trans hc2, (cell_keep5 hW ha n 3).trans hc3, (cell_keep5 hW ha n 4).trans hc4⟩)
      have HOD := Lib.hid (show ∀ W, Below w.heap.size w W → OwnD (.agg #[.bool x.2.2.1.1, .slice A1 x.2.2.1.2.length c1, .int .i64 x.2.2.2]) x.2.2 W from fun W hW => OwnD.mk (own_below HOX.out hW))
      have hn0 : (0 : Int) ≤ (n : Int) := by omega
      have hnl := (List.getElem?_eq_some_iff.1 hxn).1
      have hn1 : (n : Int) < (l.length : Int) := by omega
      clear hc0 hc1 hc2 hc3 hc4 hox ha hxn hx
      have hd1 : decide ((0 : Int) ≤ (n : Int)) = true := decide_eq_true hn0
      have HB2 := Lib.hid bb2
      obtain ⟨k2, k3, k4⟩ := HCC.out _ bb2
      skip
      go_upto_region 6 with fail
      go_cut [10] (fun s wx => NewLocV 36 (fun v => OwnQ v (divQ unitQ.1 (ratD x.2.2)).1) w2 s wx)
      case first =>
        have HC0 := Lib.hid (show Chg [] w2 w2.drew from (Chg.refl _ _).drew1)
        have HCr := Lib.hid (show Chg [] w2 w2 from Chg.refl _ _)
        have KL := Lib.hid (show ∀ W, Chg [] w2 W → W.cell? ⟨(a.add (n * 5)).block, (a.add (n * 5)).off + 2, none⟩ = some (.bool x.2.2.1.1) ∧ W.cell? ⟨(a.add (n * 5)).block, (a.add (n * 5)).off + 3, none⟩ = some (.slice A1 x.2.2.1.2.length c1) ∧ W.cell? ⟨(a.add (n * 5)).block, (a.add (n * 5)).off + 4, none⟩ = some (.int .i64 x.2.2.2) ∧ Hid (Chg [] w2 W) from fun W hc => ⟨(HCC.out W (below_chg HB2.out hc HB2.out.size (fun i hi => by simp at hi))).1, (HCC.out W (below_chg HB2.out hc HB2.out.size (fun i hi => by simp at hi))).2.1, (HCC.out W (below_chg HB2.out hc HB2.out.size (fun i hi => by simp at hi))).2.2, Lib.hid hc⟩)
        have BBF := Lib.hid (show ∀ W, Chg [] w2 W → Below w.heap.size w W from fun W hc => below_chg bb2 hc bb2.size (fun i hi => by simp at hi))
        go_region_held3 (fun W => W.cell? ⟨(a.add (n * 5)).block, (a.add (n * 5)).off + 2, none⟩ = some (.bool x.2.2.1.1) ∧ W.cell? ⟨(a.add (n * 5)).block, (a.add (n * 5)).off + 3, none⟩ = some (.slice A1 x.2.2.1.2.length c1) ∧ W.cell? ⟨(a.add (n * 5)).block, (a.add (n * 5)).off + 4, none⟩ = some (.int .i64 x.2.2.2) ∧ Hid (Chg [] w2 W))
          ((refine KL.out _ ?_; (first | exact HC5.out | exact HC4.out | exact HC3.out | exact HCr.out | exact HC0.out | exact HC5.out.drew1 | exact HC4.out.drew1 | exact HC3.out.drew1 | exact HCr.out.drew1 | exact HC0.out.drew1 | exact HC5.out.trans (Chg.of_below (below_al (Below.refl _ _) _)) | exact HC4.out.trans (Chg.of_below (below_al (Below.refl _ _) _)) | exact HC3.out.trans (Chg.of_below (below_al (Below.refl _ _) _)) | exact HCr.out.trans (Chg.of_below (below_al (Below.refl _ _) _)) | exact HC0.out.trans (Chg.of_below (below_al (Below.refl _ _) _)) | exact (Chg.setNew HC5.out (by first | exact HC5.out.size | exact HC4.out.size | exact HC3.out.size | exact HCr.out.size | exact HC0.out.size) _) | exact (Chg.setNew (Chg.setNew HC5.out (by first | exact HC5.out.size | exact HC4.out.size | exact HC3.out.size | exact HCr.out.size | exact HC0.out.size) _) (by first | exact HC5.out.size | exact HC4.out.size | exact HC3.out.size | exact HCr.out.size | exact HC0.out.size) _) | exact (Chg.setNew (Chg.setNew (Chg.setNew HC5.out (by first | exact HC5.out.size | exact HC4.out.size | exact HC3.out.size | exact HCr.out.size | exact HC0.out.size) _) (by first | exact HC5.out.size | exact HC4.out.size | exact HC3.out.size | exact HCr.out.size | exact HC0.out.size) _) (by first | exact HC5.out.size | exact HC4.out.size | exact HC3.out.size | exact HCr.out.size | exact HC0.out.size) _) | fail)))
          (first
            | (go_at_call 145; (have hBB := (‹_ ∧ _ ∧ _ ∧ Hid (Chg [] w2 _)›).2.2.2); (with_reducible refine (unitRat_any _ (HS.out.below (BBF.out _ hBB.out))).mono ?_); rintro e w3 ⟨uu, Su, rfl, ou, lu, b3⟩; have HC3 := Lib.hid (hBB.out.trans (Chg.of_below b3)); obtain ⟨Au, cu, Bu, du, rfl⟩ := ownQ_form ou.here; (first | (have early3 : At [w2.heap.size] (BoxAt w2.heap.size #[.bool false, .slice none 0 0, .slice none 0 0] 36) w3 := At.below (box_new w2.drew _ _) b3) | (have early3 := At.below (box_new _ #[.bool false, .slice none 0 0, .slice none 0 0] 36) b3) | (have early3 := At.below early2 b3) | skip); have HBZ3 := Lib.hid hBB.out.size; clear hBB)
            | (go_at_call 28; (have hBB := (‹_ ∧ _ ∧ _ ∧ Hid (Chg [] w2 _)›).2.2.2); (with_reducible refine (implDecRat_any _ x.2.2 _ hxl (HOD.out _ (BBF.out _ hBB.out)) (HS.out.below (BBF.out _ hBB.out))).mono ?_); rintro e w4 ⟨ud, Sd, rfl, od, ld, b4⟩; have HC4 := Lib.hid (hBB.out.trans (Chg.of_below b4)); (have ou_4 := At.below (by first | exact ou | exact At.below ou (below_al (Below.refl _ _) _) | exact At.below (At.below ou (below_al (Below.refl _ _) _)) (below_al (Below.refl _ _) _) | exact At.move ou (fun _ _ => rfl) (Nat.le_refl _) | exact At.below (At.move (w' := w2.drew) ou (fun _ _ => rfl) (Nat.le_refl _)) (below_al (Below.refl _ _) _)) b4); obtain ⟨Ad, cd, Bd_, dd, rfl⟩ := ownQ_form od.here; (first | (have early4 : At [w2.heap.size] (BoxAt w2.heap.size #[.bool false, .slice none 0 0, .slice none 0 0] 36) w4 := At.below (box_new w2.drew _ _) b4) | (have early4 := At.below (box_new _ #[.bool false, .slice none 0 0, .slice none 0 0] 36) b4) | (have early4 := At.below early3 b4) | skip); have HBZ4 := Lib.hid hBB.out.size; clear hBB)
            | (go_at_call 74; (have hBB := (‹_ ∧ _ ∧ _ ∧ Hid (Chg [] w2 _)›).2.2.2); (with_reducible refine (implRatDiv_any _ _ unitQ.1 (ratD x.2.2) _ unitQ_sz (ratD_sz _) (At.here (by first | exact ou_4 | exact At.below ou_4 (below_al (Below.refl _ _) _) | exact At.below (At.below ou_4 (below_al (Below.refl _ _) _)) (below_al (Below.refl _ _) _) | exact At.move ou_4 (fun _ _ => rfl) (Nat.le_refl _) | exact At.below (At.move (w' := w2.drew) ou_4 (fun _ _ => rfl) (Nat.le_refl _)) (below_al (Below.refl _ _) _))) (At.here (by first | exact od | exact At.below od (below_al (Below.refl _ _) _) | exact At.below (At.below od (below_al (Below.refl _ _) _)) (below_al (Below.refl _ _) _) | exact At.move od (fun _ _ => rfl) (Nat.le_refl _) | exact At.below (At.move (w' := w2.drew) od (fun _ _ => rfl) (Nat.le_refl _)) (below_al (Below.refl _ _) _))) (HS.out.below (BBF.out _ hBB.out))).mono ?_); rintro e w5 ⟨uv, Sv, rfl, ov, lv, b5⟩; have HC5 := Lib.hid (hBB.out.trans (Chg.of_below b5)); (have ou_5 := At.below (by first | exact ou_4 | exact At.below ou_4 (below_al (Below.refl _ _) _) | exact At.below (At.below ou_4 (below_al (Below.refl _ _) _)) (below_al (Below.refl _ _) _) | exact At.move ou_4 (fun _ _ => rfl) (Nat.le_refl _) | exact At.below (At.move (w' := w2.drew) ou_4 (fun _ _ => rfl) (Nat.le_refl _)) (below_al (Below.refl _ _) _)) b5); (have od_5 := At.below (by first | exact od | exact At.below od (below_al (Below.refl _ _) _) | exact At.below (At.below od (below_al (Below.refl _ _) _)) (below_al (Below.refl _ _) _) | exact At.move od (fun _ _ => rfl) (Nat.le_refl _) | exact At.below (At.move (w' := w2.drew) od (fun _ _ => rfl) (Nat.le_refl _)) (below_al (Below.refl _ _) _)) b5); obtain ⟨Av, cv, Bv, dv, rfl⟩ := ownQ_form ov.here; (first | have hbxg := At.below_lt (box_new _ #[.bool false, .slice none 0 0, .slice none 0 0] 36) b5 | have hbxg := At.below_lt early4 b5 | skip); (try (have hbxf := hbxg.1; have HGB := Lib.hid hbxg.2; clear hbxg)); (try (have cz0 := hbxf.here.cell 0 _ rfl; have fz0 := Lib.frozen_of_heap hbxf.here 0; have cz1 := hbxf.here.cell 1 _ rfl; have fz1 := Lib.frozen_of_heap hbxf.here 1; have cz2 := hbxf.here.cell 2 _ rfl; have fz2 := Lib.frozen_of_heap hbxf.here 2)); have HBZ5 := Lib.hid hBB.out.size; clear hBB))
        all_goals (go_wp2_with fail; go_meet; first | exact newLocV_last ov lv HBZ5.out (below_of_chg HC5.out) | exact newLocV_early3 hbxf.here ov lv (by first | exact HC4.out.size | exact HC3.out.size | exact HCr.out.size | exact HC0.out.size) HGB.out (below_of_chg HC5.out))
      rename World => w3
      obtain ⟨gv, csv, Sv, rfl, kv, ov, nv, lv, b3⟩ := hcut
      obtain ⟨Av, cv, Bv, dv, ev⟩ := ownQ_form ov.here
      injection ev with ev
      subst ev
      have bb3 := Below.next bb2 b3
      replace ko := ko.below b3
      have hzl := b3.size
      have HW := Lib.hid (newQn_chg (R0 := (divQ unitQ.1 (ratD x.2.2)).1) (R1 := 3) (v := .agg #[.bool (divQ unitQ.1 (ratD x.2.2)).1.1.1, .slice Av (divQ unitQ.1 (ratD x.2.2)).1.1.2.length cv, .slice Bv (divQ unitQ.1 (ratD x.2.2)).1.2.length dv]) (T := [w.heap.size]) ov (fun i hi hm => by have := (lv i (List.mem_cons_of_mem _ hi)).1; simp at hm; omega) (fun i hi => by simp at hi; omega) (fun i hi => by have := (lv i (List.mem_cons_of_mem _ hi)).1; omega) bb3)
      have cz0 := ko.here.cell 0 _ rfl
      have fz0 := Lib.frozen_of_heap ko.here 0
      have cz1 := ko.here.cell 1 _ rfl
      have fz1 := Lib.frozen_of_heap ko.here 1
      have cz2 := ko.here.cell 2 _ rfl
      have fz2 := Lib.frozen_of_heap ko.here 2
      have cp0 := kv.here.cell 0 _ rfl
      have cp1 := kv.here.cell 1 _ rfl
      have cp2 := kv.here.cell 2 _ rfl
      clear kv k2 k3 k4
      clear ko ov lv
      go_wp2
      refine bodyPost_ret (v := .tuple #[.agg #[.bool (divQ unitQ.1 (ratD x.2.2)).1.1.1, .slice Av (divQ unitQ.1 (ratD x.2.2)).1.1.2.length cv, .slice Bv (divQ unitQ.1 (ratD x.2.2)).1.2.length dv], .int .i64 3]) (by simp [results, Tryz.results146, go_sem, cz0, cz1, cz2]) rfl ?_
      rw [show R.1 = (divQ unitQ.1 (ratD x.2.2)).1 by rw [HV.out], show R.2 = 3 by rw [HV.out]]
      refine HW.out _ ?_
      repeat (first | with_reducible exact Chg.refl _ _ | with_reducible refine Chg.setCell ?_ (by simp) _ | with_reducible refine Chg.trans ?_ (Chg.of_below (below_al (Below.refl _ _) _)))
    · have HV := Lib.hid (EQ.out.symm.trans (store_none (by have := HN.out; omega) h1))
      have hd1 : decide (0 ≤ posE l q p) = false := decide_eq_false h1
      generalize posE l q p = y at hd1 ⊢
      clear h1
      have HW := Lib.hid (newQn_zero (T := [w.heap.size]) (fun i hi => by simp at hi; omega) bb2)
      have cz0 := ko.here.cell 0 _ rfl
      have fz0 := Lib.frozen_of_heap ko.here 0
      have cz1 := ko.here.cell 1 _ rfl
      have fz1 := Lib.frozen_of_heap ko.here 1
      have cz2 := ko.here.cell 2 _ rfl
      have fz2 := Lib.frozen_of_heap ko.here 2
      clear ko 
      go_wp2
      refine bodyPost_ret (v := .tuple #[.agg #[.bool false, .slice none 0 0, .slice none 0 0], .int .i64 0]) (by simp [results, Tryz.results146, go_sem, cz0, cz1, cz2]) rfl ?_
      rw [show R.1 = zeroQ by rw [HV.out], show R.2 = 0 by rw [HV.out]]
      refine HW.out _ ?_
      repeat (first | with_reducible exact Chg.refl _ _ | with_reducible refine Chg.setCell ?_ (by simp) _ | with_reducible refine Chg.trans ?_ (Chg.of_below (below_al (Below.refl _ _) _)))
end Go.Proofs.YtehkknphcflofaaGreatDoor

namespace Go.Proofs.YtehkknphcflofaaGreatDoor
open Go.RowKit
open Go.ChangeMaps (setBlock heap_setBlock_same)
open Go.Maps (Keyed)

section
variable {H : Type} {P : Program} {k e t : TypeId} {R : Value → Option (DataW H × List MemPlace)} {w : World} {b n : Nat} {D : DataW H}
/-- behind the making of a place the map reads there as it did -/
theorem entry_world (K : WideMaps.KeyLaw P k) (ht : P.underlying t = some (.map k e)) {z : Value} (hz : ∀ u : World, (zeroValue e).run P u = .ok z u) (h : w.ownsMap P k R b n D) (hn : n < maxLen) {key : Value} {kl : Lit} (hkey : keyOf P k key = some kl) {zd : DataW H} {ps : List MemPlace} (hzd : R z = some (zd, ps))
    {v : Value} {W2 : World} (hrun : (Instr.mapEntry t (.map (some b)) key).run P w = .ok v W2) : ∃ D2, W2.ownsMap P k R b (n + 1) D2 ∧ D2.atKey kl zd = D.atKey kl zd := by
  have h0 := h
  have KK := Keyed.of_law K
  obtain ⟨es, clock, hb, F, hs, rfl⟩ := h
  rcases K.find w hkey es.toList F.keys with ⟨h1, h2⟩ | ⟨j, e0, h1, h2, h3⟩
  · obtain ⟨w', hup, hown, _⟩ := h0.update KK ht hn hkey hzd
    have e : W2 = w' := by
      simp [Instr.mapEntry, run_underlying ht, MapKept.run_getObj_map hb, K.check w false hkey, h1, hz, MapKept.run_setObj_map _ hb, Result.andThen] at hrun
      simp [Instr.mapUpdate, run_underlying ht, MapKept.run_getObj_map hb, K.check w false hkey, h1, MapKept.run_setObj_map _ hb, Result.andThen] at hup
      rw [← hrun.2, ← hup]
    subst e
    refine ⟨_, hown, ?_⟩
    rw [Maps.atKey_put_same ⟨_, rfl⟩ (KK.key hkey), WideElems.atKey_none K F hkey h2]
  · have hj : es[j]? = some e0 := by simpa using h2
    have hsame : es.modify j (fun e => { e with key := key }) = es := by
      apply Array.ext
      · simp
      · intro i i1 i2
        rw [Array.getElem_modify]
        split
        · rename_i hij
          subst hij
          have hj0 : es[j] = e0 := (Array.getElem?_eq_some_iff.1 hj).2
          rw [hj0, ← h3]
        · rfl
    simp [Instr.mapEntry, run_underlying ht, MapKept.run_getObj_map hb, K.check w false hkey, h1, hj, h3, K.stays w hkey, hsame, MapKept.run_setObj_map _ hb, Result.andThen] at hrun
    rw [← hrun.2]
    exact ⟨_, ⟨es, clock, heap_setBlock_same hb _, F, by omega, rfl⟩, rfl⟩
/-- one step of 'm[k]++' -/
theorem count_step (K : WideMaps.KeyLaw P k) (ht : P.underlying t = some (.map k e)) (he : P.underlying e = some (.int .i64)) (hz : ∀ u : World, (zeroValue e).run P u = .ok (.int .i64 0) u) (h : w.ownsMap P k (plainElem P e) b n D) (hn : n < maxLen) {key : Value} {kl : Lit} (hkey : keyOf P k key = some kl)
    {c : Int} (hc : D.atKey kl (.lit (.int .i64 0)) = .lit (.int .i64 c)) (hc0 : 0 ≤ c) (hc1 : c ≤ 1048576) :
    ∃ (v0 : Value) (st : Nat) (W2 W3 : World), (Instr.lookup t (.map (some b)) key false).run P w = .ok (.int .i64 c) w ∧ (Instr.lookup t (.map (some b)) key false).run P W2 = .ok (.int .i64 c) W2 ∧ (Instr.mapEntry t (.map (some b)) key).run P w = .ok (.tuple #[v0, .int .i64 st]) W2 ∧
      (Instr.entryStore t (.map (some b)) (.int .i64 st) (.int .i64 (c + 1))).run P W2 = .ok () W3 ∧ W3.ownsMap P k (plainElem P e) b (n + 1) (D.put kl (.lit (.int .i64 (c + 1)))) ∧ w.grownBy W3 (some b) := by
  have KK := Keyed.of_law K
  have wf0 : (Lit.int .i64 0).wf = true := by decide
  have wf1 : (Lit.int .i64 (c + 1)).wf = true := by simp [Lit.wf, IntKind.min, IntKind.max, IntKind.signed, IntKind.bits]; omega
  obtain ⟨c1, hl, hat, _⟩ := h.lookup_int KK ht he (hz w) hkey
  obtain rfl : c1 = c := by
    rw [hc] at hat
    injection hat with e1
    injection e1 with _ e1
    exact e1.symm
  have h' := h
  obtain ⟨es, clock, hb, F, hs, _⟩ := h'
  obtain ⟨v0, st, es1, clock1, hent, _, hst⟩ := WideElems.entry_then_store K ht hz hb F hkey
  obtain ⟨D2, h2, hat2⟩ := entry_world K ht hz h hn hkey (plainElem_int he wf0) hent
  obtain ⟨c2, hl2, hat2', _⟩ := h2.lookup_int KK ht he (hz _) hkey
  obtain rfl : c2 = c1 := by
    rw [hat2, hc] at hat2'
    injection hat2' with e1
    injection e1 with _ e1
    exact e1.symm
  obtain ⟨es', clock', hs', hup⟩ := hst _ (.int .i64 (c2 + 1)) (heap_setBlock_same hb _)
  obtain ⟨w', hup', hown, hgr⟩ := h.update KK ht hn hkey (plainElem_int he wf1)
  rw [hup] at hup'
  have ew : setBlock (setBlock w b (.map es1 clock1)) b (.map es' clock') = w' := by
    injection hup' with _ e1
    rw [← e1]
    simp [setBlock]
  refine ⟨v0, st, _, _, hl, hl2, hent, hs', ?_, ?_⟩
  · rw [ew]; exact hown
  · rw [ew]; exact hgr
end
/-! ### pairs as keys -/
theorem pairLaid : laidOutB Tryz.prog = true := by kernel_rfl
theorem pairRow : (132 : TypeId) < Tryz.prog.types.size := of_decide_eq_true (by kernel_rfl)
theorem pairWide : (match Tryz.prog.underlying 132 with | some (.array _ _) | some (.struct _) => true | _ => false) = true := by kernel_rfl
set_option maxRecDepth 100000 in
theorem pairLaw : WideMaps.KeyLaw Tryz.prog 132 := deep_law_laid pairLaid (m := 2) (by omega) pairRow (by kernel_rfl) pairWide
def pairV (a b : ByteArray) : Value := .agg #[.string a, .string b]
theorem pair_key (a b : ByteArray) (ha : a.size ≤ maxLen) (hb : b.size ≤ maxLen) : ∃ kl, keyOf Tryz.prog 132 (pairV a b) = some kl := by
  have hk : Tryz.prog.keyType 132 = true := by kernel_rfl
  have hc : Tryz.prog.cellsOf 132 = 2 := by kernel_rfl
  have hs : Tryz.prog.cellsOf 9 = 1 := by kernel_rfl
  have hf : (pairV a b).formed Tryz.prog 132 = true := by simp [pairV, Value.formed, Tryz.underlying132, hc]
  obtain ⟨n, hn⟩ : ∃ n, Tryz.prog.types.size = n + 1 := Nat.exists_eq_succ_of_ne_zero (Nat.ne_of_gt (Nat.lt_of_le_of_lt (Nat.zero_le _) pairRow))
  have hl : ∃ ls, Tryz.prog.keyLits (Tryz.prog.types.size + 1) 132 (pairV a b).cells.toList = some ls := by
    rw [hn]
    simp [Program.keyLits, Tryz.underlying132, Tryz.underlying9, pairV, Value.cells, hc, hs, ha, hb]
  obtain ⟨ls, hl⟩ := hl
  refine ⟨.string (keyBytes ls), ?_⟩
  unfold keyOf
  rw [Tryz.underlying132]
  dsimp only
  rw [hk, hf, hl]
  rfl
/-- what the map of counts holds -/
def CntD (D : DataW Unit) (l : List EI) : Prop :=
  (∀ a b kl, keyOf Tryz.prog 132 (pairV a b) = some kl → D.atKey kl (.lit (.int .i64 0)) = .lit (.int .i64 (cntE l a b))) ∧ ∀ kl, Maps.has D kl = true → ∃ r ∈ l, keyOf Tryz.prog 132 (pairV r.1 r.2.1) = some kl
theorem cntD_nil : CntD (.map []) [] := ⟨fun _ _ _ _ => rfl, fun kl h => by cases h⟩
theorem pairV_inj {a b p q : ByteArray} (h : pairV a b = pairV p q) : p = a ∧ q = b := by
  unfold pairV at h
  injection h with h
  simp at h
  exact ⟨h.1.symm, h.2.symm⟩
theorem cntD_put {D : DataW Unit} {l : List EI} {k : Nat} {x : EI} {kl : Lit} (hD : Maps.IsMap D) (h : CntD D (l.take k)) (hx : l[k]? = some x) (hk : keyOf Tryz.prog 132 (pairV x.1 x.2.1) = some kl) :
    CntD (D.put kl (.lit (.int .i64 ((cntE (l.take k) x.1 x.2.1 : Int) + 1)))) (l.take (k + 1)) := by
  have KK := Keyed.of_law pairLaw
  refine ⟨fun a b kl' hk' => ?_, fun kl' hh => ?_⟩
  · rw [cntE_take hx]
    by_cases e : kl' = kl
    · subst e
      obtain ⟨e1, e2⟩ := pairV_inj (KK.inj hk' hk)
      rw [Maps.atKey_put_same hD (KK.key hk), if_pos ⟨e1, e2⟩, e1, e2]
      rfl
    · rw [Maps.atKey_put_other e, h.1 a b kl' hk', if_neg]
      · rfl
      · rintro ⟨rfl, rfl⟩
        rw [hk] at hk'
        exact e (Option.some.inj hk').symm
  · have hmem : ∀ r ∈ l.take k, r ∈ l.take (k + 1) := fun r hr => by
      have hj := (List.getElem?_eq_some_iff.1 hx).1
      rw [List.take_succ_eq_append_getElem hj]
      exact List.mem_append_left _ hr
    by_cases e : kl' = kl
    · subst e
      refine ⟨x, ?_, hk⟩
      have hj := (List.getElem?_eq_some_iff.1 hx).1
      rw [List.take_succ_eq_append_getElem hj, (List.getElem?_eq_some_iff.1 hx).2]
      exact List.mem_append_right _ (List.mem_singleton.2 rfl)
    · rw [Maps.has_put_other e] at hh
      obtain ⟨r, hr, hkr⟩ := h.2 kl' hh
      exact ⟨r, hmem r hr, hkr⟩
end Go.Proofs.YtehkknphcflofaaGreatDoor

namespace Go.Proofs.YtehkknphcflofaaGreatDoor
open Go.RowKit
open Go.Maps (Keyed)

set_option maxHeartbeats 4000000 in
set_option maxRecDepth 100000 in
theorem pairsDiffer_any (v : Value) (l : List EI) (w : World) (hl : l.length ≤ 1048576) (hs : ∀ x ∈ l, x.1.size ≤ maxLen ∧ x.2.1.size ≤ maxLen) (h : RdEL w v l) :
    Calls Tryz.prog 102 #[v] w (Postb (differE l) w) := by
  obtain ⟨A, c, rfl, hc⟩ := h
  have HC := Lib.hid hc
  have HS := Lib.hid hs
  clear hc hs
  have hzI : ∀ u : World, (zeroValue 3).run Tryz.prog u = .ok (.int .i64 0) u := fun u => by kernel_rfl
  have HREL := Lib.hid (show ∃ (k : Nat) (D : DataW Unit), k ≤ l.length ∧ Value.int .i64 0 = .int .i64 k ∧ (w.alloc (.map #[] 0)).ownsMap Tryz.prog 132 (plainElem Tryz.prog 3) w.heap.size k D ∧ Hid (CntD D (l.take k)) ∧ Below w.heap.size w (w.alloc (.map #[] 0)) from ⟨0, .map [], Nat.zero_le _, rfl, World.ownsMap_made w _ _ _, Lib.hid cntD_nil, (Below.refl _ _).alloc (Nat.le_refl _) _⟩)
  have HZI := Lib.hid hzI
  clear hzI
  have hmm := @run_makeMap Tryz.prog
  go_enter Tryz.func102, Tryz.ntmps102
  go_wp2
  go_loopw [11] (fun i wr => ∃ (k : Nat) (D : DataW Unit), k ≤ l.length ∧ i = .int .i64 k ∧ wr.ownsMap Tryz.prog 132 (plainElem Tryz.prog 3) w.heap.size k D ∧ Hid (CntD D (l.take k)) ∧ Below w.heap.size w wr) (fun i _ => l.length - (intOf i).toNat)
  case atStart => exact HREL.out
  case round =>
    clear HREL
    obtain ⟨k, D, hk, rfl, hown, HD, hb⟩ := hrel
    by_cases hlt : k < l.length
    · obtain ⟨x, hxk⟩ : ∃ x, l[k]? = some x := ⟨_, List.getElem?_eq_getElem hlt⟩
      obtain ⟨a, u, rfl, ha, hc0, hc1, hc2, hc3, hc4, hr⟩ := HC.out k x hxk
      obtain ⟨A1, c1, rfl⟩ := row_form hr
      rw [intsV_length] at hc3 hr
      have k0 := (cell_keep5' hb ha k).trans hc0
      have k1 := (cell_keep5 hb ha k 1).trans hc1
      have k2 := (cell_keep5 hb ha k 2).trans hc2
      have k3 := (cell_keep5 hb ha k 3).trans hc3
      have k4 := (cell_keep5 hb ha k 4).trans hc4
      have hsz := HS.out x (List.mem_of_getElem? hxk)
      obtain ⟨kl, hkl⟩ := pair_key x.1 x.2.1 hsz.1 hsz.2
      have hbx := below_al (Below.refl wr.heap.size wr) (.cells #[.string x.1, .string x.2.1, .bool x.2.2.1.1, .slice A1 x.2.2.1.2.length c1, .int .i64 x.2.2.2] 54)
      have kx := box_new wr #[.string x.1, .string x.2.1, .bool x.2.2.1.1, .slice A1 x.2.2.1.2.length c1, .int .i64 x.2.2.2] 54
      have HRX := Lib.hid (show ∀ W, Below wr.heap.size wr W → RdE W (.agg #[.string x.1, .string x.2.1, .bool x.2.2.1.1, .slice A1 x.2.2.1.2.length c1, .int .i64 x.2.2.2]) x from fun W h => RdE.below (RdE.below ⟨_, rfl, hr⟩ hb) h)
      have HBX := Lib.hid hbx
      have HW := Lib.hid (show ∀ W1, Below wr.heap.size wr W1 → ∃ (v0 : Value) (st : Nat) (W2 W3 : World), (Instr.lookup 204 (.map (some w.heap.size)) (.agg #[.string x.1, .string x.2.1]) false).run Tryz.prog W1 = .ok (.int .i64 (cntE (l.take k) x.1 x.2.1)) W1 ∧ (Instr.lookup 204 (.map (some w.heap.size)) (.agg #[.string x.1, .string x.2.1]) false).run Tryz.prog W2 = .ok (.int .i64 (cntE (l.take k) x.1 x.2.1)) W2 ∧
          (Instr.mapEntry 204 (.map (some w.heap.size)) (.agg #[.string x.1, .string x.2.1])).run Tryz.prog W1 = .ok (.tuple #[v0, .int .i64 st]) W2 ∧ (Instr.entryStore 204 (.map (some w.heap.size)) (.int .i64 st) (.int .i64 (cntE (l.take k) x.1 x.2.1 + 1))).run Tryz.prog W2 = .ok () W3 ∧
          Hid (∃ D' : DataW Unit, W3.ownsMap Tryz.prog 132 (plainElem Tryz.prog 3) w.heap.size (k + 1) D' ∧ CntD D' (l.take (k + 1)) ∧ Below w.heap.size w W3) from fun W1 hb1 => by
        have ho1 := hown.kept (w' := W1) (row := none) ⟨hb1.os, hb1.tape, hb1.output, hb1.size, fun i hi _ => hb1.block i hi⟩ (by simp)
        have hcn := cntE_le (l.take k) x.1 x.2.1
        rw [List.length_take] at hcn
        obtain ⟨v0, st, W2, W3, q1, q2, q3, q4, q5, q6⟩ := count_step pairLaw Tryz.underlying204 Tryz.underlying3 HZI.out ho1 (by unfold maxLen; omega) hkl (HD.out.1 _ _ _ hkl) (by omega) (by omega)
        obtain ⟨es, hes, _⟩ := ho1.entries (Keyed.of_law pairLaw)
        exact ⟨v0, st, W2, W3, q1, q2, q3, q4, Lib.hid ⟨_, q5, cntD_put ⟨es, hes⟩ HD.out hxk hkl, (Below.next hb hb1).grown q6 (by have := hb.size; have := hb1.size; omega) (fun i hi => by cases hi; exact Nat.le_refl _)⟩⟩)
      have hcw : IntKind.i64.wrap ((cntE (l.take k) x.1 x.2.1 : Int) + 1) = (cntE (l.take k) x.1 x.2.1 : Int) + 1 := IntWalk.i64_in _ (by have := cntE_le (l.take k) x.1 x.2.1; rw [List.length_take] at this; omega)
      have kx_c0 := kx.here.cell 0 _ rfl
      have kx_c1 := kx.here.cell 1 _ rfl
      have kx_c2 := kx.here.cell 2 _ rfl
      have kx_c3 := kx.here.cell 3 _ rfl
      have kx_c4 := kx.here.cell 4 _ rfl
      clear hc0 hc1 hc2 hc3 hc4 hr ha hb hbx kx hown HD hkl hsz hxk
      generalize (cntE (l.take k) x.1 x.2.1 : Int) = cn at *
      go_wp2_with fail
      go_region_with (go_at_call 94; refine (pairOf_any _ x _ (HRX.out _ (Below.drew1 HBX.out))).mono ?_; rintro e w1 ⟨rfl, b1⟩; obtain ⟨v0, st, W2, W3, q1, q2, q3, q4, HQ⟩ := HW.out w1 ((Below.drew1 HBX.out).trans (b1.mono (by simp))))
      all_goals
        obtain ⟨D', r1, r2, r3⟩ := HQ.out
        go_wp2
        go_roundw
        case rel => exact ⟨k + 1, D', by omega, by go_num, r1, Lib.hid r2, r3⟩
        case measure => simp [intOf]; omega
    · obtain rfl : k = l.length := by omega
      have hd := HD.out
      rw [List.take_length] at hd
      obtain ⟨rb, hrb⟩ : ∃ r, r = wr.heap.size := ⟨_, rfl⟩
      have HD2 := Lib.hid hd
      clear HD hd HC
      go_wp2_with (first
        | (at_range; refine wpList_range_own _ rfl _ 204 rfl 132 3 (Keyed.of_law pairLaw) Tryz.underlying204 _ w.heap.size l.length D rfl hown ?_; intro w0 hrg0 hg0 hs0)
        | go_in)
      go_frame
      rw [← hrb] at hrg0
      have HSTART := Lib.hid (show ∃ (left : Lit → Bool) (cnt : Nat), w0.ranges Tryz.prog 132 (plainElem Tryz.prog 3) w.heap.size rb l.length D left cnt ∧ Hid (∀ a b kl, keyOf Tryz.prog 132 (pairV a b) = some kl → left kl = false → cntE l a b ≤ 1) ∧ Below w.heap.size w w0 from
        ⟨_, _, hrg0, Lib.hid (fun a b kl h1 h2 => by
          have h3 := HD2.out.1 a b kl h1
          rw [Maps.atKey_of_not_has h2] at h3
          injection h3 with h3
          injection h3 with _ h3
          omega), hb.grown hg0 hb.size (fun i hi => by cases hi)⟩)
      have HRB := Lib.hid (show w.heap.size ≤ rb by rw [hrb]; exact hb.size)
      clear hrg0 hg0 hs0 hb hown
      rw [← hrb]
      clear hrb
      go_loopw [7] (fun _ wr => ∃ (left : Lit → Bool) (cnt : Nat), wr.ranges Tryz.prog 132 (plainElem Tryz.prog 3) w.heap.size rb l.length D left cnt ∧ Hid (∀ a b kl, keyOf Tryz.prog 132 (pairV a b) = some kl → left kl = false → cntE l a b ≤ 1) ∧ Below w.heap.size w wr) (fun _ wr => wr.rangeLeft w.heap.size rb)
      case atStart => exact HSTART.out
      case round =>
        clear HSTART
        obtain ⟨left, cnt, hrg, HL, hb⟩ := hrel
        go_wp2_with (first
          | (at_next; refine wpList_next_ranges _ rfl _ rfl 132 (Keyed.of_law pairLaw) (plainElem Tryz.prog 3) (id : Value → Value) (Value.int .i64) (fun key kl _ => ⟨key, rfl⟩) (fun v y hv => by obtain ⟨c, rfl, _⟩ := plainElem_int_inv Tryz.underlying3 hv; exact ⟨c, rfl⟩) w.heap.size rb l.length D left cnt rfl hrg ?_ ?_)
          | go_in)
        · intro _ hl0
          have HV := Lib.hid (show differE l = true by
            unfold differE
            rw [List.all_eq_true]
            intro r hr
            obtain ⟨kl, hkl⟩ := pair_key r.1 r.2.1 (HS.out r hr).1 (HS.out r hr).2
            exact decide_eq_true (HL.out _ _ kl hkl (hl0 kl)))
          clear hrg HL
          go_wp2
          go_ret
          exact ⟨ret_bool HV.out.symm, hb⟩
        · intro x c kl ya yb w1 cnt1 hkey hlk hv hat hrg1 hlt1 hg1 hs1 hen
          obtain ⟨c', e1, e2, _⟩ := plainElem_int_inv Tryz.underlying3 hv
          cases e1
          cases e2
          obtain ⟨r, hr, hkr⟩ := HD2.out.2 kl (Maps.has_true_of_atKey hat)
          have hcn : c = (cntE l r.1 r.2.1 : Int) := by
            have h1 := HD2.out.1 _ _ kl hkr
            rw [hat] at h1
            injection h1 with h1
            injection h1 with _ h1
          have hb1 := hb.grown hg1 hb.size (fun i hi => by cases hi; exact HRB.out)
          by_cases h1 : 1 < c
          · have HV := Lib.hid (show differE l = false by
              rw [Bool.eq_false_iff]
              intro hd
              unfold differE at hd
              rw [List.all_eq_true] at hd
              have := hd r hr
              rw [decide_eq_true_eq] at this
              omega)
            have hd1 : decide ((1 : Int) < c) = true := decide_eq_true h1
            clear hrg hrg1 hv hat hkey hkr hr hcn hlk h1
            go_wp2
            go_ret
            exact ⟨ret_bool HV.out.symm, hb1⟩
          · have hd1 : decide ((1 : Int) < c) = false := decide_eq_false h1
            have HL2 := Lib.hid (show ∀ a b kl', keyOf Tryz.prog 132 (pairV a b) = some kl' → (left kl' && !kl'.sameKey kl) = false → cntE l a b ≤ 1 from fun a b kl' hk' hf => by
              by_cases e : kl' = kl
              · subst e
                have h2 := HD2.out.1 a b kl' hk'
                rw [hat] at h2
                injection h2 with h2
                injection h2 with _ h2
                omega
              · rw [Maps.sameKey_ne e] at hf
                exact HL.out a b kl' hk' (by simpa using hf))
            have HRG := Lib.hid hrg
            have HRG1 := Lib.hid hrg1
            have HB1 := Lib.hid hb1
            clear hrg hrg1 hv hat hkey hkr hr hcn hlk h1 hb hb1 HL
            go_wp2
            go_roundw
            case rel => exact ⟨_, cnt1, HRG1.out, HL2, HB1.out⟩
            case measure => rw [HRG1.out.left_eq, HRG.out.left_eq]; omega
end Go.Proofs.YtehkknphcflofaaGreatDoor

namespace Go.Proofs.YtehkknphcflofaaGreatDoor
open Go.RowKit

theorem all_okE_snoc {l : List EI} {k : Nat} {x : EI} (h : (l.take k).all okE = true) (hx : l[k]? = some x) (ho : okE x = true) : (l.take (k + 1)).all okE = true := by
  have hj := (List.getElem?_eq_some_iff.1 hx).1
  rw [List.take_succ_eq_append_getElem hj, (List.getElem?_eq_some_iff.1 hx).2, List.all_append, h]
  simp [ho]
theorem known_size3 {s : ByteArray} (hk : knownC s = true) : s.size ≤ 3 := by
  obtain ⟨r, hr, e, _⟩ := known_row hk
  rw [← e]
  have h : (specT.all fun r => decide (r.1.size ≤ 3)) = true := by decide +kernel
  exact of_decide_eq_true (List.all_eq_true.1 h r hr)
set_option maxHeartbeats 4000000 in
set_option maxRecDepth 100000 in
theorem implRatesOk_any (v : Value) (t : TI) (w : World) (hl : t.2.length ≤ 1099511627776) (hx : ∀ x ∈ t.2, x.2.2.1.2.length ≤ 1048576) (h : OwnTR w v t) (ht : CurTab w) :
    Calls Tryz.prog 37 #[v] w (Postb (okT t) w) := by
  obtain ⟨A, c, rfl, hr⟩ := ownTR_form h
  have HR := Lib.hid hr
  have HT := Lib.hid ht
  clear h hr ht
  have bb0 : Below w.heap.size w (w.alloc (.cells #[.string t.1, .slice A t.2.length c] 25)) := below_al (Below.refl _ _) _
  have kt := box_new w #[.string t.1, .slice A t.2.length c] 25
  go_enter Tryz.func37, Tryz.ntmps37
  have kt_c0 := kt.here.cell 0 _ rfl
  have kt_c1 := kt.here.cell 1 _ rfl
  go_wp2_with fail
  clear kt_c0 kt_c1
  refine (implCurKnown_any t.1 _ (HT.out.below bb0)).mono ?_
  rintro e w1 ⟨rfl, b1⟩
  have bb1 := Below.next bb0 b1
  replace kt := kt.below b1
  by_cases ok0 : knownC t.1 = true
  · rw [ok0]
    have HO0 := Lib.hid ok0
    clear ok0
    by_cases hn : t.2.length ≤ 12
    · have hn1 : ¬ (12 : Int) < (t.2.length : Int) := by omega
      have HN := Lib.hid hn
      have HREL := Lib.hid (show ∃ k : Nat, k ≤ t.2.length ∧ Value.int .i64 0 = .int .i64 k ∧ Hid ((t.2.take k).all okE = true) ∧ At [w.heap.size] (BoxAt w.heap.size #[.string t.1, .slice A t.2.length c] 25) w1 ∧ Below w.heap.size w w1 from ⟨0, Nat.zero_le _, rfl, Lib.hid rfl, kt, bb1⟩)
      have kt_c0 := kt.here.cell 0 _ rfl
      have kt_c1 := kt.here.cell 1 _ rfl
      clear kt bb0 bb1 b1 hn
      go_wp2
      clear kt_c0 kt_c1
      go_loopw [18] (fun i wr => ∃ k : Nat, k ≤ t.2.length ∧ i = .int .i64 k ∧ Hid ((t.2.take k).all okE = true) ∧ At [w.heap.size] (BoxAt w.heap.size #[.string t.1, .slice A t.2.length c] 25) wr ∧ Below w.heap.size w wr) (fun i _ => t.2.length - (intOf i).toNat)
      case atStart => exact HREL.out
      case round =>
        clear HREL
        obtain ⟨k, hk, rfl, HK, kt, hb⟩ := hrel
        by_cases hlt : k < t.2.length
        · obtain ⟨x, hxk⟩ : ∃ x, t.2[k]? = some x := ⟨_, List.getElem?_eq_getElem hlt⟩
          have hrb := HR.out.below hb
          obtain ⟨A', c', e', hc'⟩ := hrb
          obtain ⟨a, u, ea, ha, hc0, hc1, hc2, hc3, hc4, hr⟩ := hc' k x hxk
          have e0 : A = A' := by injection e' with e1 e2 e3
          subst e0
          subst ea
          obtain ⟨A1, c1, rfl⟩ := own_len hr
          have hxm := List.mem_of_getElem? hxk
          have hxl := hx x hxm
          have hbx := below_al (Below.refl wr.heap.size wr) (.cells #[.string x.1, .string x.2.1, .bool x.2.2.1.1, .slice A1 x.2.2.1.2.length c1, .int .i64 x.2.2.2] 54)
          have kx := box_new wr #[.string x.1, .string x.2.1, .bool x.2.2.1.1, .slice A1 x.2.2.1.2.length c1, .int .i64 x.2.2.2] 54
          have OX := Lib.hid (show ∀ W, Below (wr.alloc (.cells #[.string x.1, .string x.2.1, .bool x.2.2.1.1, .slice A1 x.2.2.1.2.length c1, .int .i64 x.2.2.2] 54)).heap.size (wr.alloc (.cells #[.string x.1, .string x.2.1, .bool x.2.2.1.1, .slice A1 x.2.2.1.2.length c1, .int .i64 x.2.2.2] 54)) W → OwnE (.agg #[.string x.1, .string x.2.1, .bool x.2.2.1.1, .slice A1 x.2.2.1.2.length c1, .int .i64 x.2.2.2]) x W from fun W h => OwnE.mk (own_below (own_below hr hbx) h))
          have bb := Below.next hb hbx
          replace kt := kt.below hbx
          have HNO := Lib.hid (show ¬ okE x = true → okT t = false from fun h => by rw [okT_pairs, all_okE_bad hxm h, Bool.false_and, Bool.and_false, Bool.and_false])
          have HXK := Lib.hid hxk
          have cx0 := kx.here.cell 0 _ rfl
          have cx1 := kx.here.cell 1 _ rfl
          have cx2 := kx.here.cell 2 _ rfl
          have cx3 := kx.here.cell 3 _ rfl
          have cx4 := kx.here.cell 4 _ rfl
          clear hb hbx hr hc' e' ha hxm hxk kx
          have hlt' := hlt
          go_wp2_with fail
          clear cx0 cx1 cx2 cx3 cx4 hc0 hc1 hc2 hc3 hc4
          refine (implRateOk_any _ x _ hxl (OX.out _ (Below.refl _ _)) (HT.out.below bb)).mono ?_
          rintro e w2 ⟨rfl, b2⟩
          have bb2 := Below.next bb b2
          have KT := Lib.hid (kt.below b2)
          clear kt b2 bb
          by_cases okx : okE x = true
          · rw [okx]
            have HNX := Lib.hid (all_okE_snoc HK.out HXK.out okx)
            clear okx
            go_wp2
            go_roundw
            case rel => exact ⟨k + 1, by omega, by go_num, HNX, KT.out, bb2⟩
            case measure => simp [intOf]; omega
          · have okx' : okE x = false := by simpa using okx
            have HV := Lib.hid (HNO.out okx)
            rw [okx']
            clear okx okx'
            go_wp2
            go_ret
            exact ⟨ret_bool HV.out.symm, bb2⟩
        · obtain rfl : k = t.2.length := by omega
          have hall := HK.out
          rw [List.take_length] at hall
          have HV := Lib.hid (show okT t = differE t.2 by rw [okT_pairs, HO0.out, decide_eq_true HN.out, hall]; rfl)
          have hsz : ∀ x ∈ t.2, x.1.size ≤ maxLen ∧ x.2.1.size ≤ maxLen := fun x hm => by
            have hp := okE_parts (List.all_eq_true.1 hall x hm)
            have h1 := known_size3 hp.1
            have h2 := known_size3 hp.2.1
            unfold maxLen
            omega
          have hpd := pairsDiffer_any (.slice A t.2.length c) t.2 wr (by have := HN.out; omega) hsz (HR.out.below hb).rd
          have HB := Lib.hid hb
          have kt_c0 := kt.here.cell 0 _ rfl
          have kt_c1 := kt.here.cell 1 _ rfl
          clear hall hsz hb kt
          go_wp2_with fail
          refine hpd.mono ?_
          rintro e w2 ⟨rfl, b2⟩
          have bb2 := Below.next HB.out b2
          clear kt_c0 kt_c1
          go_wp2
          go_ret
          exact ⟨ret_bool HV.out.symm, bb2⟩
    · have hn1 : (12 : Int) < (t.2.length : Int) := by omega
      have HV := Lib.hid (show okT t = false by rw [okT_rows, decide_eq_false hn, Bool.false_and, Bool.and_false])
      have kt_c0 := kt.here.cell 0 _ rfl
      have kt_c1 := kt.here.cell 1 _ rfl
      clear kt bb0 b1 hn
      go_wp2
      go_ret
      exact ⟨ret_bool HV.out.symm, bb1⟩
  · have ok0' : knownC t.1 = false := by simpa using ok0
    have HV := Lib.hid (show okT t = false by rw [okT_rows, ok0', Bool.false_and])
    rw [ok0']
    clear ok0 ok0' kt
    go_wp2
    go_ret
    exact ⟨ret_bool HV.out.symm, bb1⟩
end Go.Proofs.YtehkknphcflofaaGreatDoor

namespace Go.Proofs.YtehkknphcflofaaGreatDoor
open Go.RowKit

set_option maxHeartbeats 4000000 in
set_option maxRecDepth 100000 in
theorem pivotRate_any (v : Value) (t : TI) (p q : ByteArray) (w : World) (hl : t.2.length ≤ 1099511627776) (hx : ∀ x ∈ t.2, x.2.2.1.2.length ≤ 1048576) (h : OwnTR w v t) (hsen : Sen w) :
    Calls Tryz.prog 147 #[v, .string p, .string q] w (PostQn (pivT t p q).1 (pivT t p q).2 w) := by
  have HS := Lib.hid hsen
  clear hsen
  obtain ⟨A, c, rfl, hr⟩ := ownTR_form h
  have HR := Lib.hid (show ∀ W, Below w.heap.size w W → OwnER W (.slice A t.2.length c) t.2 from fun W h => hr.below h)
  have HTR := Lib.hid (show ∀ W, Below w.heap.size w W → OwnTR W (.agg #[.string t.1, .slice A t.2.length c]) t from fun W h => ⟨_, rfl, hr.below h⟩)
  clear h hr
  have bb0 : Below w.heap.size w ((w.alloc (.cells #[.string t.1, .slice A t.2.length c] 25)).alloc (.cells #[.bool false, .slice none 0 0, .slice none 0 0] 36)) := below_al (below_al (Below.refl _ _) _) _
  have kt := (box_new w #[.string t.1, .slice A t.2.length c] 25).below (below_al (Below.refl _ _) (.cells #[.bool false, .slice none 0 0, .slice none 0 0] 36))
  have ko := (box_new (w.alloc (.cells #[.string t.1, .slice A t.2.length c] 25)) #[.bool false, .slice none 0 0, .slice none 0 0] 36)
  rw [show (w.alloc (.cells #[.string t.1, .slice A t.2.length c] 25)).heap.size = w.heap.size + 1 by simp] at ko
  have HKO := Lib.hid (ko.lt (w.heap.size + 1) (by simp))
  obtain ⟨⟨X, x⟩, hX⟩ : ∃ r, storeT t.2 p t.1 = r := ⟨_, rfl⟩
  obtain ⟨⟨Y, y⟩, hY⟩ : ∃ r, storeT t.2 t.1 q = r := ⟨_, rfl⟩
  have HPV := Lib.hid (pivT_of hX hY)
  have hsX : szQ X ≤ 1048576 := by have := storeT_sz t.2 p t.1; rw [hX] at this; exact this
  have hsY : szQ Y ≤ 1048576 := by have := storeT_sz t.2 t.1 q; rw [hY] at this; exact this
  have HX := Lib.hid hX
  have HY := Lib.hid hY
  clear hX hY
  obtain ⟨R, hR⟩ : ∃ R, pivT t p q = R := ⟨_, rfl⟩
  have EQ := Lib.hid hR
  rw [hR]
  clear hR
  go_enter Tryz.func147, Tryz.ntmps147
  have kt_c0 := kt.here.cell 0 _ rfl
  have kt_c1 := kt.here.cell 1 _ rfl
  go_wp2_with fail
  clear kt_c0 kt_c1
  refine ((storedRate_any _ t.2 p t.1 _ hl hx (HR.out _ bb0) (HS.out.below bb0)).mono fun _ _ h => postQn_is HX.out h).mono ?_
  rintro e w1 ⟨u1, S1, rfl, o1, l1, b1⟩
  obtain ⟨A1, c1, B1, d1, rfl⟩ := ownQ_form o1.here
  have hz1 : w.heap.size + 1 + 1 ≤ w1.heap.size := by have := b1.size; simp at this; omega
  have bb1 := Below.next bb0 b1
  replace kt := kt.below b1
  replace ko := ko.below b1
  have kx := box_new (w1) #[.bool X.1.1, .slice A1 X.1.2.length c1, .slice B1 X.2.length d1] 36
  have alx := below_al (Below.refl (w1).heap.size (w1)) (.cells #[.bool X.1.1, .slice A1 X.1.2.length c1, .slice B1 X.2.length d1] 36)
  have bbx := Below.next bb1 alx
  replace kt := kt.below alx
  replace ko := ko.below alx
  replace o1 := o1.below alx
  have kt_c0 := kt.here.cell 0 _ rfl
  have kt_c1 := kt.here.cell 1 _ rfl
  go_wp2_with fail
  clear kt_c0 kt_c1
  refine ((storedRate_any _ t.2 t.1 q _ hl hx (HR.out _ bbx) (HS.out.below bbx)).mono fun _ _ h => postQn_is HY.out h).mono ?_
  rintro e w2 ⟨u2, S2, rfl, o2, l2, b2⟩
  obtain ⟨A2, c2, B2, d2, rfl⟩ := ownQ_form o2.here
  have hz2 : w1.heap.size + 1 ≤ w2.heap.size := by have := b2.size; simp at this; omega
  have bb2 := Below.next bbx b2
  replace kt := kt.below b2
  replace ko := ko.below b2
  replace o1 := o1.below b2
  replace kx := kx.below b2
  have cy0 := ko.here.cell 0 _ rfl
  have fy0 := Lib.frozen_of_heap ko.here 0
  have cy1 := ko.here.cell 1 _ rfl
  have fy1 := Lib.frozen_of_heap ko.here 1
  have cy2 := ko.here.cell 2 _ rfl
  have fy2 := Lib.frozen_of_heap ko.here 2
  have hlo : w.heap.size + 1 < w2.heap.size := by omega
  have hlo1 : ¬ w.heap.size + 1 = w2.heap.size := by omega
  have hlo2 : ¬ w2.heap.size = w.heap.size + 1 := by omega
  have ky := box_new (w2) #[.bool Y.1.1, .slice A2 Y.1.2.length c2, .slice B2 Y.2.length d2] 36
  have aly := below_al (Below.refl (w2).heap.size (w2)) (.cells #[.bool Y.1.1, .slice A2 Y.1.2.length c2, .slice B2 Y.2.length d2] 36)
  have bby := Below.next bb2 aly
  replace kt := kt.below aly
  replace ko := ko.below aly
  replace o1 := o1.below aly
  replace kx := kx.below aly
  replace o2 := o2.below aly
  clear kt
  by_cases hx0 : x = 0
  · have HV := Lib.hid (EQ.out.symm.trans (HPV.out.trans (if_pos (.inl hx0))))
    clear HX HY HPV
    subst hx0
    have HW := Lib.hid (newQn_zero (T := [w.heap.size + 1]) (fun i hi => by simp at hi; omega) bb2)
    clear ko kx ky o1 o2
    go_wp2
    refine bodyPost_ret (v := .tuple #[.agg #[.bool false, .slice none 0 0, .slice none 0 0], .int .i64 0]) (by simp [results, Tryz.results147, go_sem, cy0, cy1, cy2, hlo]) rfl ?_
    rw [show R.1 = zeroQ by rw [HV.out], show R.2 = 0 by rw [HV.out]]
    refine HW.out _ ?_
    repeat (first | with_reducible exact Chg.refl _ _ | with_reducible refine Chg.setCell ?_ (by simp) _ | with_reducible refine Chg.trans ?_ (Chg.of_below (below_al (Below.refl _ _) _)))
  · have hx1 : (x == (0 : Int)) = false := by simpa using hx0
    by_cases hy0 : y = 0
    · have HV := Lib.hid (EQ.out.symm.trans (HPV.out.trans (if_pos (.inr hy0))))
      clear HX HY HPV
      subst hy0
      clear hx0
      have HW := Lib.hid (newQn_zero (T := [w.heap.size + 1]) (fun i hi => by simp at hi; omega) bb2)
      clear ko kx ky o1 o2
      go_wp2
      refine bodyPost_ret (v := .tuple #[.agg #[.bool false, .slice none 0 0, .slice none 0 0], .int .i64 0]) (by simp [results, Tryz.results147, go_sem, cy0, cy1, cy2, hlo]) rfl ?_
      rw [show R.1 = zeroQ by rw [HV.out], show R.2 = 0 by rw [HV.out]]
      refine HW.out _ ?_
      repeat (first | with_reducible exact Chg.refl _ _ | with_reducible refine Chg.setCell ?_ (by simp) _ | with_reducible refine Chg.trans ?_ (Chg.of_below (below_al (Below.refl _ _) _)))
    · have hy1 : (y == (0 : Int)) = false := by simpa using hy0
      have HV := Lib.hid (EQ.out.symm.trans (HPV.out.trans (if_neg (fun hh => hh.elim hx0 hy0))))
      clear hx0 hy0 HX HY HPV
      have kx_c0 := kx.here.cell 0 _ rfl
      have kx_c1 := kx.here.cell 1 _ rfl
      have kx_c2 := kx.here.cell 2 _ rfl
      have ky_c0 := ky.here.cell 0 _ rfl
      have ky_c1 := ky.here.cell 1 _ rfl
      have ky_c2 := ky.here.cell 2 _ rfl
      go_wp2_with fail
      clear kx_c0 kx_c1 kx_c2 ky_c0 ky_c1 ky_c2
      refine (implRatMul_any _ _ X Y _ hsX hsY o1.here o2.here (HS.out.below bby)).mono ?_
      rintro e w3 ⟨u3, S3, rfl, o3, l3, b3⟩
      obtain ⟨A3, c3, B3, d3, rfl⟩ := ownQ_form o3.here
      have hz3 : w2.heap.size + 1 ≤ w3.heap.size := by have := b3.size; simp at this; omega
      have bb3 := Below.next bby b3
      replace ko := ko.below b3
      replace o1 := o1.below b3
      replace kx := kx.below b3
      replace o2 := o2.below b3
      replace ky := ky.below b3
      clear cy0 cy1 cy2 fy0 fy1 fy2 hlo hlo1 hlo2
      have o3P := o3
      have cy0 := ko.here.cell 0 _ rfl
      have fy0 := Lib.frozen_of_heap ko.here 0
      have cy1 := ko.here.cell 1 _ rfl
      have fy1 := Lib.frozen_of_heap ko.here 1
      have cy2 := ko.here.cell 2 _ rfl
      have fy2 := Lib.frozen_of_heap ko.here 2
      have hlo : w.heap.size + 1 < w3.heap.size := by omega
      have hlo1 : ¬ w.heap.size + 1 = w3.heap.size := by omega
      have hlo2 : ¬ w3.heap.size = w.heap.size + 1 := by omega
      have kz := box_new (w3) #[.bool (mulQ X Y).1.1.1, .slice A3 (mulQ X Y).1.1.2.length c3, .slice B3 (mulQ X Y).1.2.length d3] 36
      have alz := below_al (Below.refl (w3).heap.size (w3)) (.cells #[.bool (mulQ X Y).1.1.1, .slice A3 (mulQ X Y).1.1.2.length c3, .slice B3 (mulQ X Y).1.2.length d3] 36)
      have bbz := Below.next bb3 alz
      replace ko := ko.below alz
      replace o1 := o1.below alz
      replace kx := kx.below alz
      replace o2 := o2.below alz
      replace ky := ky.below alz
      replace o3 := o3.below alz
      have HW := Lib.hid (newQn_chg (R0 := (mulQ X Y).1) (R1 := 4) (v := .agg #[.bool (mulQ X Y).1.1.1, .slice A3 (mulQ X Y).1.1.2.length c3, .slice B3 (mulQ X Y).1.2.length d3]) (T := [w.heap.size + 1]) o3P (fun i hi hm => by have := (l3 i hi).1; (try simp at this); simp at hm; omega) (fun i hi => by simp at hi; omega) (fun i hi => by have := (l3 i hi).1; (try simp at this); omega) bb3)
      clear kz
      clear ko kx ky o1 o2 o3 o3P l3 hx1 hy1
      go_wp2
      refine bodyPost_ret (v := .tuple #[.agg #[.bool (mulQ X Y).1.1.1, .slice A3 (mulQ X Y).1.1.2.length c3, .slice B3 (mulQ X Y).1.2.length d3], .int .i64 4]) (by simp [results, Tryz.results147, go_sem, cy0, cy1, cy2, hlo]) rfl ?_
      rw [show R.1 = (mulQ X Y).1 by rw [HV.out], show R.2 = 4 by rw [HV.out]]
      refine HW.out _ ?_
      repeat (first | with_reducible exact Chg.refl _ _ | with_reducible refine Chg.setCell ?_ (by simp) _ | with_reducible refine Chg.trans ?_ (Chg.of_below (below_al (Below.refl _ _) _)))
set_option maxHeartbeats 4000000 in
set_option maxRecDepth 100000 in
theorem findRate_any (v : Value) (t : TI) (p q : ByteArray) (w : World) (hl : t.2.length ≤ 1099511627776) (hx : ∀ x ∈ t.2, x.2.2.1.2.length ≤ 1048576) (h : OwnTR w v t) (ht : CurTab w) (hsen : Sen w) :
    Calls Tryz.prog 72 #[v, .string p, .string q] w (PostQn (findT t p q).1 (findT t p q).2 w) := by
  have HS := Lib.hid hsen
  clear hsen
  have HT := Lib.hid ht
  clear ht
  obtain ⟨A, c, rfl, hr⟩ := ownTR_form h
  have HR := Lib.hid (show ∀ W, Below w.heap.size w W → OwnER W (.slice A t.2.length c) t.2 from fun W h => hr.below h)
  have HTR := Lib.hid (show ∀ W, Below w.heap.size w W → OwnTR W (.agg #[.string t.1, .slice A t.2.length c]) t from fun W h => ⟨_, rfl, hr.below h⟩)
  clear h hr
  have bb0 : Below w.heap.size w ((w.alloc (.cells #[.string t.1, .slice A t.2.length c] 25)).alloc (.cells #[.bool false, .slice none 0 0, .slice none 0 0] 36)) := below_al (below_al (Below.refl _ _) _) _
  have kt := (box_new w #[.string t.1, .slice A t.2.length c] 25).below (below_al (Below.refl _ _) (.cells #[.bool false, .slice none 0 0, .slice none 0 0] 36))
  have ko := (box_new (w.alloc (.cells #[.string t.1, .slice A t.2.length c] 25)) #[.bool false, .slice none 0 0, .slice none 0 0] 36)
  rw [show (w.alloc (.cells #[.string t.1, .slice A t.2.length c] 25)).heap.size = w.heap.size + 1 by simp] at ko
  have HKO := Lib.hid (ko.lt (w.heap.size + 1) (by simp))
  obtain ⟨R, hR⟩ : ∃ R, findT t p q = R := ⟨_, rfl⟩
  have EQ := Lib.hid hR
  rw [hR]
  clear hR
  go_enter Tryz.func72, Tryz.ntmps72
  have kt_c0 := kt.here.cell 0 _ rfl
  have kt_c1 := kt.here.cell 1 _ rfl
  go_wp2_with fail
  clear kt_c0 kt_c1
  refine (implRatesOk_any _ t _ hl hx (HTR.out _ bb0) (HT.out.below bb0)).mono ?_
  rintro e w1 ⟨rfl, b1⟩
  have hz1 : w.heap.size + 1 + 1 ≤ w1.heap.size := by have := b1.size; simp at this; omega
  have bb1 := Below.next bb0 b1
  replace kt := kt.below b1
  replace ko := ko.below b1
  by_cases ok0 : okT t = true
  · rw [ok0]
    have HOok0 := Lib.hid ok0
    clear ok0
    have kt_c0 := kt.here.cell 0 _ rfl
    have kt_c1 := kt.here.cell 1 _ rfl
    go_wp2_with fail
    clear kt_c0 kt_c1
    refine (implCurKnown_any p _ (HT.out.below bb1)).mono ?_
    rintro e w2 ⟨rfl, b2⟩
    have hz2 := b2.size
    have bb2 := Below.next bb1 b2
    replace kt := kt.below b2
    replace ko := ko.below b2
    by_cases ok1 : knownC p = true
    · rw [ok1]
      have HOok1 := Lib.hid ok1
      clear ok1
      have kt_c0 := kt.here.cell 0 _ rfl
      have kt_c1 := kt.here.cell 1 _ rfl
      go_wp2_with fail
      clear kt_c0 kt_c1
      refine (implCurKnown_any q _ (HT.out.below bb2)).mono ?_
      rintro e w3 ⟨rfl, b3⟩
      have hz3 := b3.size
      have bb3 := Below.next bb2 b3
      replace kt := kt.below b3
      replace ko := ko.below b3
      by_cases ok2 : knownC q = true
      · rw [ok2]
        have HOok2 := Lib.hid ok2
        clear ok2
        by_cases ab : p = q
        · have HV := Lib.hid (show R = (unitQ.1, 1) from EQ.out.symm.trans (by unfold findT; rw [if_pos ⟨HOok0.out, HOok1.out, HOok2.out⟩, if_pos ab]))
          have e1 : (p.toList == q.toList) = true := by rw [ab]; exact beq_self_eq_true _
          clear ab
          go_wp2_with fail
          refine (unitRat_any _ (HS.out.below bb3)).mono ?_
          rintro e w4 ⟨u4, S4, rfl, o4, l4, b4⟩
          obtain ⟨A4, c4, B4, d4, rfl⟩ := ownQ_form o4.here
          have bb4 := Below.next bb3 b4
          replace kt := kt.below b4
          replace ko := ko.below b4
          clear kt
          have HW := Lib.hid (newQn_chg (R0 := unitQ.1) (R1 := 1) (v := .agg #[.bool unitQ.1.1.1, .slice A4 unitQ.1.1.2.length c4, .slice B4 unitQ.1.2.length d4]) (T := [w.heap.size + 1]) o4 (fun i hi hm => by have := (l4 i hi).1; (try simp at this); simp at hm; omega) (fun i hi => by simp at hi; omega) (fun i hi => by have := (l4 i hi).1; (try simp at this); omega) bb4)
          have cz0 := ko.here.cell 0 _ rfl
          have fz0 := Lib.frozen_of_heap ko.here 0
          have cz1 := ko.here.cell 1 _ rfl
          have fz1 := Lib.frozen_of_heap ko.here 1
          have cz2 := ko.here.cell 2 _ rfl
          have fz2 := Lib.frozen_of_heap ko.here 2
          clear ko o4 l4 e1
          go_wp2
          refine bodyPost_ret (v := .tuple #[.agg #[.bool unitQ.1.1.1, .slice A4 unitQ.1.1.2.length c4, .slice B4 unitQ.1.2.length d4], .int .i64 1]) (by simp [results, Tryz.results72, go_sem, cz0, cz1, cz2]) rfl ?_
          rw [show R.1 = unitQ.1 by rw [HV.out], show R.2 = 1 by rw [HV.out]]
          refine HW.out _ ?_
          repeat (first | with_reducible exact Chg.refl _ _ | with_reducible refine Chg.setCell ?_ (by simp) _ | with_reducible refine Chg.trans ?_ (Chg.of_below (below_al (Below.refl _ _) _)))
        · have e1 := bytes_neC ab
          obtain ⟨⟨X, x⟩, hX⟩ : ∃ r, storeT t.2 p q = r := ⟨_, rfl⟩
          have HV0 := Lib.hid (EQ.out.symm.trans (findT_of ⟨HOok0.out, HOok1.out, HOok2.out⟩ ab hX))
          have HX := Lib.hid hX
          clear ab hX
          have kt_c0 := kt.here.cell 0 _ rfl
          have kt_c1 := kt.here.cell 1 _ rfl
          go_wp2_with fail
          clear kt_c0 kt_c1
          refine ((storedRate_any _ t.2 p q _ hl hx (HR.out _ bb3) (HS.out.below bb3)).mono fun _ _ h => postQn_is HX.out h).mono ?_
          rintro e w4 ⟨u4, S4, rfl, o4, l4, b4⟩
          obtain ⟨A4, c4, B4, d4, rfl⟩ := ownQ_form o4.here
          have hz4 := b4.size
          have bb4 := Below.next bb3 b4
          replace kt := kt.below b4
          replace ko := ko.below b4
          have o4P := o4
          have cy0 := ko.here.cell 0 _ rfl
          have fy0 := Lib.frozen_of_heap ko.here 0
          have cy1 := ko.here.cell 1 _ rfl
          have fy1 := Lib.frozen_of_heap ko.here 1
          have cy2 := ko.here.cell 2 _ rfl
          have fy2 := Lib.frozen_of_heap ko.here 2
          have hlo : w.heap.size + 1 < w4.heap.size := by omega
          have hlo1 : ¬ w.heap.size + 1 = w4.heap.size := by omega
          have hlo2 : ¬ w4.heap.size = w.heap.size + 1 := by omega
          have kx := box_new (w4) #[.bool X.1.1, .slice A4 X.1.2.length c4, .slice B4 X.2.length d4] 36
          have alx := below_al (Below.refl (w4).heap.size (w4)) (.cells #[.bool X.1.1, .slice A4 X.1.2.length c4, .slice B4 X.2.length d4] 36)
          have bbx := Below.next bb4 alx
          replace kt := kt.below alx
          replace ko := ko.below alx
          replace o4 := o4.below alx
          clear e1
          by_cases hx0 : x = 0
          · obtain ⟨⟨Y, y⟩, hY⟩ : ∃ r, pivT t p q = r := ⟨_, rfl⟩
            have HV := Lib.hid (show R = (Y, y) from HV0.out.trans ((if_pos hx0).trans hY))
            have HY := Lib.hid hY
            clear hY HX HV0
            subst hx0
            have kt_c0 := kt.here.cell 0 _ rfl
            have kt_c1 := kt.here.cell 1 _ rfl
            go_wp2_with fail
            clear kt_c0 kt_c1
            refine ((pivotRate_any _ t p q _ hl hx (HTR.out _ bbx) (HS.out.below bbx)).mono fun _ _ h => postQn_is HY.out h).mono ?_
            rintro e w5 ⟨u5, S5, rfl, o5, l5, b5⟩
            obtain ⟨A5, c5, B5, d5, rfl⟩ := ownQ_form o5.here
            have hz5 : w4.heap.size + 1 ≤ w5.heap.size := by have := b5.size; simp at this; omega
            have bb5 := Below.next bbx b5
            replace kt := kt.below b5
            replace ko := ko.below b5
            replace o4 := o4.below b5
            replace kx := kx.below b5
            clear kt
            clear cy0 cy1 cy2 fy0 fy1 fy2 hlo hlo1 hlo2
            have HW := Lib.hid (newQn_chg (R0 := Y) (R1 := y) (v := .agg #[.bool Y.1.1, .slice A5 Y.1.2.length c5, .slice B5 Y.2.length d5]) (T := [w.heap.size + 1]) o5 (fun i hi hm => by have := (l5 i hi).1; (try simp at this); simp at hm; omega) (fun i hi => by simp at hi; omega) (fun i hi => by have := (l5 i hi).1; (try simp at this); omega) bb5)
            have cz0 := ko.here.cell 0 _ rfl
            have fz0 := Lib.frozen_of_heap ko.here 0
            have cz1 := ko.here.cell 1 _ rfl
            have fz1 := Lib.frozen_of_heap ko.here 1
            have cz2 := ko.here.cell 2 _ rfl
            have fz2 := Lib.frozen_of_heap ko.here 2
            clear ko o4 o4P l4 kx o5 l5
            go_wp2
            refine bodyPost_ret (v := .tuple #[.agg #[.bool Y.1.1, .slice A5 Y.1.2.length c5, .slice B5 Y.2.length d5], .int .i64 y]) (by simp [results, Tryz.results72, go_sem, cz0, cz1, cz2]) rfl ?_
            rw [show R.1 = Y by rw [HV.out], show R.2 = y by rw [HV.out]]
            refine HW.out _ ?_
            repeat (first | with_reducible exact Chg.refl _ _ | with_reducible refine Chg.setCell ?_ (by simp) _ | with_reducible refine Chg.trans ?_ (Chg.of_below (below_al (Below.refl _ _) _)))
          · have HV := Lib.hid (show R = (X, x) from HV0.out.trans (if_neg hx0))
            have hx1 : (x != (0 : Int)) = true := by simpa using hx0
            clear hx0 kt HX HV0
            have HW := Lib.hid (newQn_chg (R0 := X) (R1 := x) (v := .agg #[.bool X.1.1, .slice A4 X.1.2.length c4, .slice B4 X.2.length d4]) (T := [w.heap.size + 1]) o4P (fun i hi hm => by have := (l4 i hi).1; (try simp at this); simp at hm; omega) (fun i hi => by simp at hi; omega) (fun i hi => by have := (l4 i hi).1; (try simp at this); omega) bb4)
            clear kx
            clear ko o4 o4P l4
            go_wp2
            refine bodyPost_ret (v := .tuple #[.agg #[.bool X.1.1, .slice A4 X.1.2.length c4, .slice B4 X.2.length d4], .int .i64 x]) (by simp [results, Tryz.results72, go_sem, cy0, cy1, cy2, hlo]) rfl ?_
            rw [show R.1 = X by rw [HV.out], show R.2 = x by rw [HV.out]]
            refine HW.out _ ?_
            repeat (first | with_reducible exact Chg.refl _ _ | with_reducible refine Chg.setCell ?_ (by simp) _ | with_reducible refine Chg.trans ?_ (Chg.of_below (below_al (Below.refl _ _) _)))
      · have ok2' : knownC q = false := by simpa using ok2
        have HV := Lib.hid (show R = (zeroQ, 0) from EQ.out.symm.trans (by unfold findT; rw [if_neg (fun h => ok2 h.2.2)]))
        rw [ok2']
        clear ok2 ok2' kt
        have HW := Lib.hid (newQn_zero (T := [w.heap.size + 1]) (fun i hi => by simp at hi; omega) bb3)
        have cz0 := ko.here.cell 0 _ rfl
        have fz0 := Lib.frozen_of_heap ko.here 0
        have cz1 := ko.here.cell 1 _ rfl
        have fz1 := Lib.frozen_of_heap ko.here 1
        have cz2 := ko.here.cell 2 _ rfl
        have fz2 := Lib.frozen_of_heap ko.here 2
        clear ko 
        go_wp2
        refine bodyPost_ret (v := .tuple #[.agg #[.bool false, .slice none 0 0, .slice none 0 0], .int .i64 0]) (by simp [results, Tryz.results72, go_sem, cz0, cz1, cz2]) rfl ?_
        rw [show R.1 = zeroQ by rw [HV.out], show R.2 = 0 by rw [HV.out]]
        refine HW.out _ ?_
        repeat (first | with_reducible exact Chg.refl _ _ | with_reducible refine Chg.setCell ?_ (by simp) _ | with_reducible refine Chg.trans ?_ (Chg.of_below (below_al (Below.refl _ _) _)))
    · have ok1' : knownC p = false := by simpa using ok1
      have HV := Lib.hid (show R = (zeroQ, 0) from EQ.out.symm.trans (by unfold findT; rw [if_neg (fun h => ok1 h.2.1)]))
      rw [ok1']
      clear ok1 ok1' kt
      have HW := Lib.hid (newQn_zero (T := [w.heap.size + 1]) (fun i hi => by simp at hi; omega) bb2)
      have cz0 := ko.here.cell 0 _ rfl
      have fz0 := Lib.frozen_of_heap ko.here 0
      have cz1 := ko.here.cell 1 _ rfl
      have fz1 := Lib.frozen_of_heap ko.here 1
      have cz2 := ko.here.cell 2 _ rfl
      have fz2 := Lib.frozen_of_heap ko.here 2
      clear ko 
      go_wp2
      refine bodyPost_ret (v := .tuple #[.agg #[.bool false, .slice none 0 0, .slice none 0 0], .int .i64 0]) (by simp [results, Tryz.results72, go_sem, cz0, cz1, cz2]) rfl ?_
      rw [show R.1 = zeroQ by rw [HV.out], show R.2 = 0 by rw [HV.out]]
      refine HW.out _ ?_
      repeat (first | with_reducible exact Chg.refl _ _ | with_reducible refine Chg.setCell ?_ (by simp) _ | with_reducible refine Chg.trans ?_ (Chg.of_below (below_al (Below.refl _ _) _)))
  · have ok0' : okT t = false := by simpa using ok0
    have HV := Lib.hid (show R = (zeroQ, 0) from EQ.out.symm.trans (by unfold findT; rw [if_neg (fun h => ok0 h.1)]))
    rw [ok0']
    clear ok0 ok0' kt
    have HW := Lib.hid (newQn_zero (T := [w.heap.size + 1]) (fun i hi => by simp at hi; omega) bb1)
    have cz0 := ko.here.cell 0 _ rfl
    have fz0 := Lib.frozen_of_heap ko.here 0
    have cz1 := ko.here.cell 1 _ rfl
    have fz1 := Lib.frozen_of_heap ko.here 1
    have cz2 := ko.here.cell 2 _ rfl
    have fz2 := Lib.frozen_of_heap ko.here 2
    clear ko 
    go_wp2
    refine bodyPost_ret (v := .tuple #[.agg #[.bool false, .slice none 0 0, .slice none 0 0], .int .i64 0]) (by simp [results, Tryz.results72, go_sem, cz0, cz1, cz2]) rfl ?_
    rw [show R.1 = zeroQ by rw [HV.out], show R.2 = 0 by rw [HV.out]]
    refine HW.out _ ?_
    repeat (first | with_reducible exact Chg.refl _ _ | with_reducible refine Chg.setCell ?_ (by simp) _ | with_reducible refine Chg.trans ?_ (Chg.of_below (below_al (Below.refl _ _) _)))
set_option maxHeartbeats 4000000 in
set_option maxRecDepth 100000 in
theorem implRateOf_any (v : Value) (t : TI) (p q : ByteArray) (w : World) (hl : t.2.length ≤ 1099511627776) (hx : ∀ x ∈ t.2, x.2.2.1.2.length ≤ 1048576) (h : OwnTR w v t) (ht : CurTab w) (hsen : Sen w) :
    Calls Tryz.prog 26 #[v, .string p, .string q] w (PostQb (rateT t p q).1 (rateT t p q).2 w) := by
  have HS := Lib.hid hsen
  clear hsen
  have HT := Lib.hid ht
  clear ht
  obtain ⟨A, c, rfl, hr⟩ := ownTR_form h
  have HR := Lib.hid (show ∀ W, Below w.heap.size w W → OwnER W (.slice A t.2.length c) t.2 from fun W h => hr.below h)
  have HTR := Lib.hid (show ∀ W, Below w.heap.size w W → OwnTR W (.agg #[.string t.1, .slice A t.2.length c]) t from fun W h => ⟨_, rfl, hr.below h⟩)
  clear h hr
  have bb0 : Below w.heap.size w ((w.alloc (.cells #[.string t.1, .slice A t.2.length c] 25)).alloc (.cells #[.bool false, .slice none 0 0, .slice none 0 0] 36)) := below_al (below_al (Below.refl _ _) _) _
  have kt := (box_new w #[.string t.1, .slice A t.2.length c] 25).below (below_al (Below.refl _ _) (.cells #[.bool false, .slice none 0 0, .slice none 0 0] 36))
  have ko := (box_new (w.alloc (.cells #[.string t.1, .slice A t.2.length c] 25)) #[.bool false, .slice none 0 0, .slice none 0 0] 36)
  rw [show (w.alloc (.cells #[.string t.1, .slice A t.2.length c] 25)).heap.size = w.heap.size + 1 by simp] at ko
  have HKO := Lib.hid (ko.lt (w.heap.size + 1) (by simp))
  obtain ⟨⟨X, x⟩, hX⟩ : ∃ r, findT t p q = r := ⟨_, rfl⟩
  have HX := Lib.hid hX
  have HV0 := Lib.hid (show rateT t p q = (X, x != 0) by rw [find_rate, hX])
  clear hX
  obtain ⟨R, hR⟩ : ∃ R, rateT t p q = R := ⟨_, rfl⟩
  have EQ := Lib.hid hR
  rw [hR]
  clear hR
  go_enter Tryz.func26, Tryz.ntmps26
  have kt_c0 := kt.here.cell 0 _ rfl
  have kt_c1 := kt.here.cell 1 _ rfl
  go_wp2_with fail
  clear kt_c0 kt_c1
  refine ((findRate_any _ t p q _ hl hx (HTR.out _ bb0) (HT.out.below bb0) (HS.out.below bb0)).mono fun _ _ h => postQn_is HX.out h).mono ?_
  rintro e w1 ⟨u1, S1, rfl, o1, l1, b1⟩
  obtain ⟨A1, c1, B1, d1, rfl⟩ := ownQ_form o1.here
  have hz1 : w.heap.size + 1 + 1 ≤ w1.heap.size := by have := b1.size; simp at this; omega
  have bb1 := Below.next bb0 b1
  replace kt := kt.below b1
  replace ko := ko.below b1
  have o1P := o1
  have cy0 := ko.here.cell 0 _ rfl
  have fy0 := Lib.frozen_of_heap ko.here 0
  have cy1 := ko.here.cell 1 _ rfl
  have fy1 := Lib.frozen_of_heap ko.here 1
  have cy2 := ko.here.cell 2 _ rfl
  have fy2 := Lib.frozen_of_heap ko.here 2
  have hlo : w.heap.size + 1 < w1.heap.size := by omega
  have hlo1 : ¬ w.heap.size + 1 = w1.heap.size := by omega
  have hlo2 : ¬ w1.heap.size = w.heap.size + 1 := by omega
  have kx := box_new (w1) #[.bool X.1.1, .slice A1 X.1.2.length c1, .slice B1 X.2.length d1] 36
  have alx := below_al (Below.refl (w1).heap.size (w1)) (.cells #[.bool X.1.1, .slice A1 X.1.2.length c1, .slice B1 X.2.length d1] 36)
  have bbx := Below.next bb1 alx
  replace kt := kt.below alx
  replace ko := ko.below alx
  replace o1 := o1.below alx
  clear kt HX
  have HV := Lib.hid (EQ.out.symm.trans HV0.out)
  have HW := Lib.hid (newQb_chg (R0 := X) (R1 := x != 0) (v := .agg #[.bool X.1.1, .slice A1 X.1.2.length c1, .slice B1 X.2.length d1]) (T := [w.heap.size + 1]) o1P (fun i hi hm => by have := (l1 i hi).1; simp at this hm; omega) (fun i hi => by simp at hi; omega) (fun i hi => by have := (l1 i hi).1; simp at this; omega) bb1)
  clear kx
  clear ko o1 o1P l1
  go_wp2
  refine bodyPost_ret (v := .tuple #[.agg #[.bool X.1.1, .slice A1 X.1.2.length c1, .slice B1 X.2.length d1], .bool (x != 0)]) (by simp [results, Tryz.results26, go_sem, cy0, cy1, cy2, hlo]) rfl ?_
  rw [show R.1 = X by rw [HV.out], show R.2 = (x != 0) by rw [HV.out]]
  refine HW.out _ ?_
  repeat (first | with_reducible exact Chg.refl _ _ | with_reducible refine Chg.setCell ?_ (by simp) _ | with_reducible refine Chg.trans ?_ (Chg.of_below (below_al (Below.refl _ _) _)))
end Go.Proofs.YtehkknphcflofaaGreatDoor

namespace Go.Proofs.YtehkknphcflofaaGreatDoor
open Go.RowKit

theorem unit_make (n : ByteArray) : makeQ (tenS (placesC n)) (ofZ 1) = ((tenS (placesC n), [1]), true) := by
  obtain ⟨h0, h1⟩ := placesC_range n
  rcases (show placesC n = 0 ∨ placesC n = 1 ∨ placesC n = 2 ∨ placesC n = 3 ∨ placesC n = 4 by omega) with h | h | h | h | h <;> rw [h] <;> decide +kernel
theorem tenS_szU (k : Int) : szS (tenS k) ≤ 1048576 := by
  have := tenN_len k
  have e : (tenS k).2 = tenN k := rfl
  unfold szS szI
  rw [e]
  omega
theorem postQb_isU {q : QI × Bool} {X : QI} {b : Bool} (e : q = (X, b)) {w w' : World} {n : Ending} (h : PostQb q.1 q.2 w n w') : PostQb X b w n w' := by rw [e] at h; exact h
set_option maxHeartbeats 2000000 in
set_option maxRecDepth 100000 in
theorem implCurUnit_any (n : ByteArray) (w : World) (ht : CurTab w) (hs : Sen w) : Calls Tryz.prog 75 #[.string n] w (NewV (fun v => OwnQ v (unitC n)) w) := by
  have HT := Lib.hid ht
  have HS := Lib.hid hs
  clear ht hs
  have ko := box_new w #[.bool false, .slice none 0 0, .slice none 0 0] 36
  have bb0 := below_al (Below.refl w.heap.size w) (.cells #[.bool false, .slice none 0 0, .slice none 0 0] 36)
  have HKO := Lib.hid (ko.lt w.heap.size (by simp))
  obtain ⟨W0, hW0⟩ : ∃ W0, W0 = w.alloc (.cells #[.bool false, .slice none 0 0, .slice none 0 0] 36) := ⟨_, rfl⟩
  rw [← hW0] at ko bb0 HKO
  have HW0 := Lib.hid hW0
  clear hW0
  have EU := Lib.hid (unit_make n)
  go_enter Tryz.func75, Tryz.ntmps75
  go_wp2_with fail
  rw [← HW0.out]
  refine (implFind_any n _ (HT.out.below bb0)).mono ?_
  rintro e w1 ⟨rfl, b1⟩
  have bb1 := Below.next bb0 b1
  replace ko := ko.below b1
  have hpl : (rowOf specT n).2.2.1 = placesC n := rfl
  obtain ⟨⟨rc, rm, rp, rq⟩, hR⟩ : ∃ r, rowOf specT n = r := ⟨_, rfl⟩
  rw [hR] at hpl ⊢
  clear hR
  dsimp only at hpl ⊢
  have kr := box_new w1 #[.string rc, .string rm, .int .i64 rp, .int .i64 rq] 180
  have alr := below_al (Below.refl w1.heap.size w1) (.cells #[.string rc, .string rm, .int .i64 rp, .int .i64 rq] 180)
  have bbr := Below.next bb1 alr
  replace ko := ko.below alr
  by_cases hk : knownC n = true
  · have HV := Lib.hid (show unitC n = (tenS rp, [1]) by unfold unitC; rw [if_pos hk, hpl])
    rw [hk]
    rw [← hpl] at EU
    clear hk hpl
    have cr2 := kr.here.cell 2 _ rfl
    go_wp2_with fail
    clear cr2
    refine (tenTo_any rp _).mono ?_
    rintro e w2 ⟨us, Ss, rfl, os, ls, b2⟩
    obtain ⟨As, cs, rfl⟩ := ownS_form os.here
    have bb2 := Below.next bbr b2
    replace ko := ko.below b2
    have hzs : szS (tenS rp) ≤ 1048576 := tenS_szU rp
    go_wp2_with fail
    refine ((implRatInt_any _ (tenS rp) _ hzs os.here (HS.out.below bb2)).mono fun _ _ h => postQb_isU EU.out h).mono ?_
    rintro e w3 ⟨uf, Sf, rfl, of, lf, b3⟩
    obtain ⟨Af, cf, Bf, df, rfl⟩ := ownQ_form of.here
    have bb3 := Below.next bb2 b3
    obtain ⟨Q, hQ⟩ : ∃ Q : QI, (tenS rp, [1]) = Q := ⟨_, rfl⟩
    rw [hQ] at HV of ⊢
    dsimp only at of ⊢
    have al := below_al (Below.refl w3.heap.size w3) (.cells #[.bool Q.1.1, .slice Af Q.1.2.length cf, .slice Bf Q.2.length df] 36)
    have kq := box_new w3 #[.bool Q.1.1, .slice Af Q.1.2.length cf, .slice Bf Q.2.length df] 36
    have hz0 := HKO.out
    have z1 := bb2.size
    have z2 := b1.size
    have z3 := alr.size
    have z4 := b2.size
    have HW := Lib.hid (newV_chg (φ := fun v => OwnQ v Q) (T := [w.heap.size]) (of.below al) (fun i hi hm => by have := (lf i hi).1; simp at hm; omega) (fun i hi => by simp at hi; omega) (fun i hi => by have := (lf i hi).1; omega) (Below.next bb3 al))
    have ko2 := (ko.below b3).below al
    have cz0 := ko2.here.cell 0 _ rfl
    have cz1 := ko2.here.cell 1 _ rfl
    have cz2 := ko2.here.cell 2 _ rfl
    have fz0 := Lib.frozen_of_heap ko2.here 0
    have fz1 := Lib.frozen_of_heap ko2.here 1
    have fz2 := Lib.frozen_of_heap ko2.here 2
    have kq0 := kq.here.cell 0 _ rfl
    have kq1 := kq.here.cell 1 _ rfl
    have kq2 := kq.here.cell 2 _ rfl
    clear ko ko2 of al kr kq bb3 b3 hz0 os z1 z2 z3 z4
    go_wp2
    refine bodyPost_ret (v := .agg #[.bool Q.1.1, .slice Af Q.1.2.length cf, .slice Bf Q.2.length df]) (by simp [results, Tryz.results75, go_sem, cz0, cz1, cz2]) rfl ?_
    rw [HV.out]
    refine HW.out _ ?_
    repeat (first | exact Chg.refl _ _ | refine Chg.setCell ?_ (by simp) _)
  · have hk' : knownC n = false := by simpa using hk
    rw [hk']
    have HV := Lib.hid (show unitC n = zeroQ by unfold unitC; rw [if_neg hk])
    clear hk hk' hpl
    have cz0 := ko.here.cell 0 _ rfl
    have cz1 := ko.here.cell 1 _ rfl
    have cz2 := ko.here.cell 2 _ rfl
    have fz0 := Lib.frozen_of_heap ko.here 0
    have fz1 := Lib.frozen_of_heap ko.here 1
    have fz2 := Lib.frozen_of_heap ko.here 2
    have HW := Lib.hid (newV_chg (φ := fun v => OwnQ v zeroQ) (v := .agg #[.bool false, .slice none 0 0, .slice none 0 0]) (T := [w.heap.size]) (S := []) ⟨⟨_, _, rfl, World.ownsRow_nil _ _ _ _, World.ownsRow_nil _ _ _ _, fun g hg => by cases hg⟩, fun _ hg => absurd hg List.not_mem_nil, fun w' _ => ⟨_, _, rfl, World.ownsRow_nil _ _ _ _, World.ownsRow_nil _ _ _ _, fun g hg => by cases hg⟩⟩ (fun i hi => absurd hi List.not_mem_nil) (fun i hi => by simp at hi; omega) (fun i hi => absurd hi List.not_mem_nil) bbr)
    clear ko
    go_wp2
    refine bodyPost_ret (v := .agg #[.bool false, .slice none 0 0, .slice none 0 0]) (by simp [results, Tryz.results75, go_sem, cz0, cz1, cz2]) rfl ?_
    rw [HV.out]
    refine HW.out _ ?_
    repeat (first | exact Chg.refl _ _ | refine Chg.setCell ?_ (by simp) _)
end Go.Proofs.YtehkknphcflofaaGreatDoor

namespace Go.Proofs.YtehkknphcflofaaGreatDoor
open Go.ChangeShapes Go.WideShapes Go.ChangeAt Go.RowKit Go.Joins

section
variable {H : Type} {enc : TypeId × Value → H} {P : Program} {W : World} {base : Nat} {t e : TypeId}

/-- the cell of a slice of ints, wherever it stands -/
theorem cell_ints {fuel : Nat} {a0 : Option Addr} {len0 cap0 : Nat} {x : DataW H × List MemPlace} (ht : P.underlying t = some (.slice e)) (he : P.underlying e = some (.int .i64)) (hc : P.cellsOf e = 1)
    (hf : DataW.trod enc P W 0 (fun _ => true) true fuel t [.slice a0 len0 cap0] = some x) :
    ∃ xs : List Int, Row W 0 W.heap.size (.slice a0 len0 cap0) (xs.map (Value.int .i64)) ∧ xs.length ≤ maxLen := by
  rcases open_ints ht he hc hf with ⟨hcs, _⟩ | ⟨a, len, cap, ss, hcs, _, hl, hm, hz, _, hcell, hsz⟩
  · have hcs' : Value.slice a0 len0 cap0 = .slice none 0 0 := by simpa using hcs
    cases hcs'
    exact ⟨[], Row.nil_ _ _, by simp⟩
  · have hcs' : Value.slice a0 len0 cap0 = .slice (some a) len cap := by simpa using hcs
    obtain ⟨rfl, rfl, rfl⟩ : a0 = some a ∧ len = len0 ∧ cap = cap0 := by cases hcs'; exact ⟨rfl, rfl, rfl⟩
    have hzl : ss.length = cap := by simpa using hz
    have hlen : (ss.take len).length = len := by rw [List.length_take]; omega
    refine ⟨ss.take len, ⟨some a, cap, by rw [List.length_map, hlen], fun j u hu => ?_⟩, by omega⟩
    rw [List.getElem?_map] at hu
    obtain ⟨s, hs, rfl⟩ := Option.map_eq_some_iff.1 hu
    have hj : j < len := by rw [← hlen]; exact (List.getElem?_eq_some_iff.1 hs).1
    have hs' : ss[j]? = some s := by rw [← hs, List.getElem?_take_of_lt hj]
    have hc1 := hcell j (by omega)
    rw [List.getD_eq_getElem?_getD, hs'] at hc1
    exact ⟨a, rfl, Nat.zero_le _, by have := cell_lt hc1; rwa [block_add] at this, hc1⟩
end

theorem Tryz.cellsSigned : Tryz.prog.cellsOf 86 = 2 := by kernel_rfl
theorem Tryz.cellsInt1 : Tryz.prog.cellsOf 3 = 1 := by kernel_rfl
end Go.Proofs.YtehkknphcflofaaGreatDoor

namespace Go.Proofs.YtehkknphcflofaaGreatDoor
open Go.ChangeShapes Go.WideShapes Go.ChangeAt Go.RowKit Go.Joins

theorem Tryz.cellsRate : Tryz.prog.cellsOf 228 = 5 := by kernel_rfl
/-- five cells that read as a rate -/
theorem rate_cells {H : Type} {enc : TypeId × Value → H} {W : World} {fuel : Nat} {c0 c1 c2 c3 c4 : Value} {y : DataW H × List MemPlace}
    (hf : DataW.trod enc Tryz.prog W 0 (fun _ => true) true fuel 228 [c0, c1, c2, c3, c4] = some y) :
    ∃ x : EI, ∃ u, c0 = .string x.1 ∧ c1 = .string x.2.1 ∧ c2 = .bool x.2.2.1.1 ∧ c3 = u ∧ c4 = .int .i64 x.2.2.2 ∧ Row W 0 W.heap.size u (intsV x.2.2.1.2) ∧ x.1.size ≤ maxLen ∧ x.2.1.size ≤ maxLen ∧ x.2.2.1.2.length ≤ maxLen := by
  obtain ⟨y0, y1, y2, n, hx, _, h0, h1, h2⟩ := Go.Deep.trod_struct3 Tryz.underlying228 hf
  have kd : Tryz.prog.cellsOf 226 = 3 := by kernel_rfl
  have ks : Tryz.prog.cellsOf 86 = 2 := Tryz.cellsSigned
  have ki : Tryz.prog.cellsOf 28 = 1 := by kernel_rfl
  have kn : Tryz.prog.cellsOf 3 = 1 := Tryz.cellsInt1
  have kt : Tryz.prog.cellsOf 9 = 1 := by kernel_rfl
  have kb : Tryz.prog.cellsOf 4 = 1 := by kernel_rfl
  simp only [kd, kt, List.drop_zero, List.take_succ_cons, List.take_zero, List.drop_succ_cons] at h0 h1 h2
  obtain ⟨z0, z1, m, _, _, g0, g1⟩ := trod_struct2 Tryz.underlying226 h2
  simp only [ks, kn, List.drop_zero, List.take_succ_cons, List.take_zero, List.drop_succ_cons] at g0 g1
  obtain ⟨q0, q1, m2, _, _, k0, k1⟩ := trod_struct2 Tryz.underlying86 g0
  simp only [kb, ki, List.drop_zero, List.take_succ_cons, List.take_zero, List.drop_succ_cons] at k0 k1
  obtain ⟨s0, e0, _, hs0⟩ := DataW.trod_string Tryz.underlying9 h0
  obtain ⟨s1, e1, _, hs1⟩ := DataW.trod_string Tryz.underlying9 h1
  obtain ⟨b, e2, _⟩ := DataW.trod_bool Tryz.underlying4 k0
  obtain ⟨a1, l1, cc1, e3⟩ := slice_form Tryz.underlying28 k1
  obtain ⟨k, e4, _, _⟩ := DataW.trod_int Tryz.underlying3 g1
  simp at e0 e1 e2 e3 e4
  subst e0 e1 e2 e3 e4
  obtain ⟨xs, hr, hl⟩ := cell_ints Tryz.underlying28 Tryz.underlying3 Tryz.cellsInt1 k1
  exact ⟨(s0, s1, (b, xs), k), _, rfl, rfl, rfl, rfl, rfl, hr, hs0, hs1, hl⟩
theorem cells_five {w : World} {base : Nat} {a : Addr} {cs : List Value} (h : w.cells? base a 5 = some cs) : ∃ c0 c1 c2 c3 c4, cs = [c0, c1, c2, c3, c4] ∧ w.cell? a = some c0 ∧ w.cell? ⟨a.block, a.off + 1, none⟩ = some c1 ∧ w.cell? ⟨a.block, a.off + 2, none⟩ = some c2 ∧ w.cell? ⟨a.block, a.off + 3, none⟩ = some c3 ∧ w.cell? ⟨a.block, a.off + 4, none⟩ = some c4 := by
  unfold World.cells? at h
  split at h
  · rw [show List.range 5 = [0, 1, 2, 3, 4] from rfl] at h
    simp only [List.mapM_cons, List.mapM_nil, Option.bind_eq_bind, Option.pure_def, Option.bind_eq_some_iff, Option.some.injEq] at h
    obtain ⟨c0, h0, r, ⟨c1, h1, r2, ⟨c2, h2, r3, ⟨c3, h3, r4, ⟨c4, h4, s, rfl, rfl⟩, rfl⟩, rfl⟩, rfl⟩, rfl⟩ := h
    exact ⟨c0, c1, c2, c3, c4, rfl, by simpa [Addr.add] using h0, by simpa [Addr.add] using h1, by simpa [Addr.add] using h2, by simpa [Addr.add] using h3, by simpa [Addr.add] using h4⟩
  · cases h
/-- what an element of a list reads as -/
def EachE (W : World) (a : Addr) (i : Nat) (x : EI) : Prop := ∃ u, a.block < W.heap.size ∧ W.cell? (a.add (i * 5)) = some (.string x.1) ∧ W.cell? ⟨(a.add (i * 5)).block, (a.add (i * 5)).off + 1, none⟩ = some (.string x.2.1) ∧ W.cell? ⟨(a.add (i * 5)).block, (a.add (i * 5)).off + 2, none⟩ = some (.bool x.2.2.1.1) ∧ W.cell? ⟨(a.add (i * 5)).block, (a.add (i * 5)).off + 3, none⟩ = some u ∧ W.cell? ⟨(a.add (i * 5)).block, (a.add (i * 5)).off + 4, none⟩ = some (.int .i64 x.2.2.2) ∧ Row W 0 W.heap.size u (intsV x.2.2.1.2) ∧ capE x
set_option maxHeartbeats 400000 in
set_option maxRecDepth 100000 in
theorem cell_rates {H : Type} {enc : TypeId × Value → H} {W : World} {fuel : Nat} {a0 : Option Addr} {len0 cap0 : Nat} {y : DataW H × List MemPlace}
    (hf : DataW.trod enc Tryz.prog W 0 (fun _ => true) true fuel 76 [.slice a0 len0 cap0] = some y) : ∃ l : List EI, RdEL W (.slice a0 len0 cap0) l ∧ l.length ≤ maxLen ∧ ∀ x ∈ l, capE x := by
  rcases DataW.trod_slice Tryz.underlying76 hf with ⟨hcs, _⟩ | ⟨a, len, cap, elems, rest, n, _, hcs, _, _, hl, hm, hel, hcell, _, _⟩
  · have hcs' : Value.slice a0 len0 cap0 = .slice none 0 0 := by simpa [Value.cells] using hcs
    cases hcs'
    exact ⟨[], ⟨_, _, rfl, fun j x hj => by simp at hj⟩, by simp, fun x hx => by cases hx⟩
  · have hcs' : Value.slice a0 len0 cap0 = .slice (some a) len cap := by simpa [Value.cells] using hcs
    obtain ⟨rfl, rfl, rfl⟩ : a0 = some a ∧ len = len0 ∧ cap = cap0 := by cases hcs'; exact ⟨rfl, rfl, rfl⟩
    have each : ∀ i, i < len → ∃ x : EI, EachE W a i x := by
      intro i hi
      have hc := hcell i hi
      rw [Tryz.cellsRate, List.getElem?_eq_getElem (by omega), Option.bind_eq_some_iff] at hc
      obtain ⟨cs, hcs, hd⟩ := hc
      obtain ⟨c0, c1, c2, c3, c4, rfl, h0, h1, h2, h3, h4⟩ := cells_five hcs
      obtain ⟨x, u, rfl, rfl, rfl, rfl, rfl, hr, hs, hs2, hxl⟩ := rate_cells hd
      exact ⟨x, _, by have := cell_lt h0; rwa [block_add] at this, h0, h1, h2, h3, h4, hr, by unfold maxLen at hs hs2 hxl; unfold capE; omega⟩
    obtain ⟨f, hF⟩ : ∃ f : Nat → EI, ∀ i, i < len → EachE W a i (f i) := by
      refine ⟨fun i => if h : i < len then Classical.choose (each i h) else (⟨#[]⟩, ⟨#[]⟩, (false, []), 0), fun i hi => ?_⟩
      simp only [dif_pos hi]
      exact Classical.choose_spec (each i hi)
    have hlen : ((List.range len).map f).length = len := by simp
    refine ⟨(List.range len).map f, ⟨some a, cap, by rw [hlen], fun j x hj => ?_⟩, by rw [hlen]; omega, fun x hx => ?_⟩
    · have hjl : j < len := by rw [← hlen]; exact (List.getElem?_eq_some_iff.1 hj).1
      have hx : x = f j := by
        rw [List.getElem?_map, List.getElem?_range hjl] at hj
        simpa using hj.symm
      subst hx
      obtain ⟨u, h1, h2, h3, h4, h5, h6, h7, _⟩ := hF j hjl
      exact ⟨a, u, rfl, h1, h2, h3, h4, h5, h6, h7⟩
    · obtain ⟨i, hi, rfl⟩ := List.mem_map.1 hx
      obtain ⟨_, _, _, _, _, _, _, _, h5⟩ := hF i (by simpa using hi)
      exact h5
theorem Tryz.cellsRates : Tryz.prog.cellsOf 78 = 2 := by kernel_rfl
set_option maxHeartbeats 400000 in
set_option maxRecDepth 100000 in
theorem arg_rates {H : Type} {enc : TypeId × Value → H} {W : World} {base : Nat} {v : Value} {d : DataW H} {p : List MemPlace}
    (hv : Value.okWide Tryz.prog W .any base 78 v) (h : DataW.Trod enc Tryz.prog W 0 (fun _ => true) true 78 v d p) : ∃ x : TI, RdT W v x ∧ capT x := by
  obtain ⟨cs, rfl, hsz⟩ := okWide_struct Tryz.underlying78 hv
  obtain ⟨c0, c1, rfl⟩ := array2 (hsz.trans Tryz.cellsRates)
  obtain ⟨fuel, hf⟩ := h
  obtain ⟨y0, y1, n, hx, _, h0, h1⟩ := trod_struct2 Tryz.underlying78 hf
  have kt : Tryz.prog.cellsOf 9 = 1 := by kernel_rfl
  have kl : Tryz.prog.cellsOf 76 = 1 := by kernel_rfl
  simp only [Value.cells, kt, kl, List.drop_zero, List.take_succ_cons, List.take_zero, List.drop_succ_cons] at h0 h1
  obtain ⟨s, e0, _, hs⟩ := DataW.trod_string Tryz.underlying9 h0
  obtain ⟨a1, l1, cc1, e1⟩ := slice_form Tryz.underlying76 h1
  simp at e0 e1
  subst e0 e1
  obtain ⟨l, hr, hl, hx⟩ := cell_rates h1
  exact ⟨(s, l), ⟨_, rfl, hr⟩, by unfold maxLen at hs; exact hs, by unfold maxLen at hl; exact hl, hx⟩
end Go.Proofs.YtehkknphcflofaaGreatDoor

namespace Go.Proofs.YtehkknphcflofaaGreatDoor
open Go.RowKit

set_option maxHeartbeats 1000000 in
set_option maxRecDepth 100000 in
theorem implMoneyOk_any (vm : Value) (m : MI) (w : World) (hl : m.2.2.length ≤ 1048576) (hm : OwnM vm m w) (ht : CurTab w) :
    Calls Tryz.prog 79 #[vm] w (Postb (okM m) w) := by
  have Hm := Lib.hid hm
  obtain ⟨Am, cm, rfl⟩ := ownM_form hm
  have OMm := Lib.hid (show ∀ W, Below w.heap.size w W → OwnM (.agg #[.string m.1, .bool m.2.1, .slice Am m.2.2.length cm]) m W from fun W hb => OwnM.below Hm.out hb)
  have OIm := Lib.hid (show ∀ W, Below w.heap.size w W → OwnI (.slice Am m.2.2.length cm) m.2.2 W from fun W hb => ownM_open (OMm.out W hb))
  have OSm := Lib.hid (show ∀ W, Below w.heap.size w W → OwnS (.agg #[.bool m.2.1, .slice Am m.2.2.length cm]) m.2 W from fun W hb => OwnS.mk (OIm.out W hb))
  clear hm
  have HT := Lib.hid ht
  clear ht
  have bb0 : Below w.heap.size w (w.alloc (.cells #[.string m.1, .bool m.2.1, .slice Am m.2.2.length cm] 32)) := below_al (Below.refl _ _) _
  have km := (box_new w #[.string m.1, .bool m.2.1, .slice Am m.2.2.length cm] 32)
  go_enter Tryz.func79, Tryz.ntmps79
  have km_c0 := km.here.cell 0 _ rfl
  have km_c1 := km.here.cell 1 _ rfl
  have km_c2 := km.here.cell 2 _ rfl
  go_wp2_with fail
  clear km_c0 km_c1 km_c2
  refine (implCurKnown_any m.1 _ (HT.out.below bb0)).mono ?_
  rintro e w1 ⟨rfl, b1⟩
  have bb1 := Below.next bb0 b1
  replace km := km.below b1
  by_cases ok0 : knownC m.1 = true
  · rw [ok0]
    have HO0 := Lib.hid ok0
    clear ok0
    have km_c0 := km.here.cell 0 _ rfl
    have km_c1 := km.here.cell 1 _ rfl
    have km_c2 := km.here.cell 2 _ rfl
    go_wp2_with fail
    clear km_c0 km_c1 km_c2
    refine (implIntOk_any _ m.2 _ hl (OwnS.rd (OSm.out _ bb1))).mono ?_
    rintro e w2 ⟨rfl, b2⟩
    have bb2 := Below.next bb1 b2
    replace km := km.below b2
    by_cases ok1 : okS m.2 = true
    · rw [ok1]
      have HO1 := Lib.hid ok1
      clear ok1
      have HV := Lib.hid (show okM m = decide ((m.2.2.length : Int) ≤ 4) by unfold okM; rw [HO0.out, HO1.out, Bool.true_and, Bool.true_and, decide_eq_decide]; omega)
      have km_c0 := km.here.cell 0 _ rfl
      have km_c1 := km.here.cell 1 _ rfl
      have km_c2 := km.here.cell 2 _ rfl
      clear hl
      go_wp2
      go_ret
      exact ⟨ret_bool HV.out.symm, bb2⟩
    · have ok1' : okS m.2 = false := by simpa using ok1
      have HV := Lib.hid (show okM m = false by unfold okM; rw [ok1', Bool.and_false, Bool.false_and])
      rw [ok1']
      clear ok1 ok1'
      go_wp2
      go_ret
      exact ⟨ret_bool HV.out.symm, bb2⟩
  · have ok0' : knownC m.1 = false := by simpa using ok0
    have HV := Lib.hid (show okM m = false by unfold okM; rw [ok0', Bool.false_and, Bool.false_and])
    rw [ok0']
    clear ok0 ok0'
    go_wp2
    go_ret
    exact ⟨ret_bool HV.out.symm, bb1⟩
set_option maxHeartbeats 1000000 in
set_option maxRecDepth 100000 in
theorem validMoney_any (cu : ByteArray) (vx : Value) (x : SI) (S : List Nat) (w : World) (hl : x.2.length ≤ 1048576) (hx : At S (OwnS vx x) w) (ht : CurTab w) :
    Calls Tryz.prog 106 #[.string cu, vx] w (KeptM S (makeM cu x).1 (makeM cu x).2 w) := by
  obtain ⟨Ax, cx, rfl⟩ := ownS_form hx.here
  have HT := Lib.hid ht
  clear ht
  have OX := Lib.hid (show ∀ W, Below w.heap.size w W → At S (OwnM (.agg #[.string cu, .bool x.1, .slice Ax x.2.length cx]) (cu, x)) W from fun W hb => (hx.below hb).imp fun _ h => OwnM.mk (q := (cu, x)) (ownS_openM h))
  have HLT := Lib.hid hx.lt
  clear hx
  have bb0 : Below w.heap.size w ((w.alloc (.cells #[.bool x.1, .slice Ax x.2.length cx] 30)).alloc (.cells #[.string ⟨#[]⟩, .bool false, .slice none 0 0] 32)) := below_al (below_al (Below.refl _ _) _) _
  have kx := (box_new w #[.bool x.1, .slice Ax x.2.length cx] 30).below (below_al (Below.refl _ _) (.cells #[.string ⟨#[]⟩, .bool false, .slice none 0 0] 32))
  have ko := (box_new (w.alloc (.cells #[.bool x.1, .slice Ax x.2.length cx] 30)) #[.string ⟨#[]⟩, .bool false, .slice none 0 0] 32)
  rw [show (w.alloc (.cells #[.bool x.1, .slice Ax x.2.length cx] 30)).heap.size = w.heap.size + 1 by simp] at ko
  have kd := box_new (((w.alloc (.cells #[.bool x.1, .slice Ax x.2.length cx] 30)).alloc (.cells #[.string ⟨#[]⟩, .bool false, .slice none 0 0] 32))) #[.string cu, .bool x.1, .slice Ax x.2.length cx] 32
  have ald := below_al (Below.refl (((w.alloc (.cells #[.bool x.1, .slice Ax x.2.length cx] 30)).alloc (.cells #[.string ⟨#[]⟩, .bool false, .slice none 0 0] 32))).heap.size (((w.alloc (.cells #[.bool x.1, .slice Ax x.2.length cx] 30)).alloc (.cells #[.string ⟨#[]⟩, .bool false, .slice none 0 0] 32)))) (.cells #[.string cu, .bool x.1, .slice Ax x.2.length cx] 32)
  have bbd := Below.next bb0 ald
  replace kx := kx.below ald
  replace ko := ko.below ald
  rw [show ((w.alloc (.cells #[.bool x.1, .slice Ax x.2.length cx] 30)).alloc (.cells #[.string ⟨#[]⟩, .bool false, .slice none 0 0] 32)).heap.size = w.heap.size + 1 + 1 by simp] at kd
  go_enter Tryz.func106, Tryz.ntmps106
  have kx_c0 := kx.here.cell 0 _ rfl
  have kx_c1 := kx.here.cell 1 _ rfl
  have kd_c0 := kd.here.cell 0 _ rfl
  have kd_c1 := kd.here.cell 1 _ rfl
  have kd_c2 := kd.here.cell 2 _ rfl
  go_wp2_with fail
  clear kx_c0 kx_c1 kd_c0 kd_c1 kd_c2
  refine (implMoneyOk_any _ (cu, x) _ hl (OX.out _ bbd).here (HT.out.below bbd)).mono ?_
  rintro e w1 ⟨rfl, b1⟩
  have bb1 := Below.next bbd b1
  replace kx := kx.below b1
  replace ko := ko.below b1
  replace kd := kd.below b1
  by_cases ok : okM (cu, x) = true
  · rw [ok]
    have HV := Lib.hid (show makeM cu x = ((cu, x), true) by unfold makeM; rw [if_pos ok])
    clear ok kx
    have HW := Lib.hid (keptM_at (r := w.heap.size + 1) (b := true) (OX.out _ bb1) HLT.out (by omega) bb1)
    have kd_c0 := kd.here.cell 0 _ rfl
    have kd_c1 := kd.here.cell 1 _ rfl
    have kd_c2 := kd.here.cell 2 _ rfl
    have cz0 := ko.here.cell 0 _ rfl
    have fz0 := Lib.frozen_of_heap ko.here 0
    have cz1 := ko.here.cell 1 _ rfl
    have fz1 := Lib.frozen_of_heap ko.here 1
    have cz2 := ko.here.cell 2 _ rfl
    have fz2 := Lib.frozen_of_heap ko.here 2
    clear kd ko
    go_wp2
    refine bodyPost_ret (v := .tuple #[.agg #[.string cu, .bool x.1, .slice Ax x.2.length cx], .bool true]) (by simp [results, Tryz.results106, go_sem, cz0, cz1, cz2]) rfl ?_
    rw [HV.out]
    exact HW.out
  · have ok' : okM (cu, x) = false := by simpa using ok
    have HV := Lib.hid (show makeM cu x = (zeroM, false) by unfold makeM; rw [if_neg ok])
    rw [ok']
    clear ok ok' kx kd
    have cz0 := ko.here.cell 0 _ rfl
    have fz0 := Lib.frozen_of_heap ko.here 0
    have cz1 := ko.here.cell 1 _ rfl
    have fz1 := Lib.frozen_of_heap ko.here 1
    have cz2 := ko.here.cell 2 _ rfl
    have fz2 := Lib.frozen_of_heap ko.here 2
    go_wp2
    refine bodyPost_ret (v := .tuple #[.agg #[.string ⟨#[]⟩, .bool false, .slice none 0 0], .bool false]) (by simp [results, Tryz.results106, go_sem, cz0, cz1, cz2]) rfl ?_
    rw [HV.out]
    first | exact keptM_zero bb1 | exact keptM_zero (below_set3 bb1 (by omega))
end Go.Proofs.YtehkknphcflofaaGreatDoor

namespace Go.Proofs.YtehkknphcflofaaGreatDoor
open Go.RowKit

set_option maxHeartbeats 2000000 in
set_option maxRecDepth 100000 in
theorem implMoneyRat_any (vm : Value) (m : MI) (w : World) (hz : szS m.2 ≤ 1048576) (hm : OwnM vm m w) (ht : CurTab w) (hs : Sen w) : Calls Tryz.prog 21 #[vm] w (NewV (fun v => OwnQ v (ratM m)) w) := by
  have HT := Lib.hid ht
  have HS := Lib.hid hs
  clear ht hs
  have Hm := Lib.hid hm
  obtain ⟨Am, cm, rfl⟩ := ownM_form hm
  have OMm := Lib.hid (show ∀ W, Below w.heap.size w W → OwnM (.agg #[.string m.1, .bool m.2.1, .slice Am m.2.2.length cm]) m W from fun W hb => OwnM.below Hm.out hb)
  have OSm := Lib.hid (show ∀ W, Below w.heap.size w W → OwnS (.agg #[.bool m.2.1, .slice Am m.2.2.length cm]) m.2 W from fun W hb => OwnS.mk (ownM_open (OMm.out W hb)))
  clear hm
  have hl : m.2.2.length ≤ 1048576 := by unfold szS szI at hz; omega
  have bb0 : Below w.heap.size w ((w.alloc (.cells #[.string m.1, .bool m.2.1, .slice Am m.2.2.length cm] 32)).alloc (.cells #[.bool false, .slice none 0 0, .slice none 0 0] 36)) := below_al (below_al (Below.refl _ _) _) _
  have km := (box_new w #[.string m.1, .bool m.2.1, .slice Am m.2.2.length cm] 32).below (below_al (Below.refl _ _) (.cells #[.bool false, .slice none 0 0, .slice none 0 0] 36))
  have ko := box_new (w.alloc (.cells #[.string m.1, .bool m.2.1, .slice Am m.2.2.length cm] 32)) #[.bool false, .slice none 0 0, .slice none 0 0] 36
  rw [show (w.alloc (.cells #[.string m.1, .bool m.2.1, .slice Am m.2.2.length cm] 32)).heap.size = w.heap.size + 1 by simp] at ko
  have hko := ko.lt (w.heap.size + 1) (by simp)
  have HKO := Lib.hid hko
  go_enter Tryz.func21, Tryz.ntmps21
  have km_c0 := km.here.cell 0 _ rfl
  have km_c1 := km.here.cell 1 _ rfl
  have km_c2 := km.here.cell 2 _ rfl
  go_wp2_with fail
  clear km_c0 km_c1 km_c2 hko
  refine (implMoneyOk_any _ m _ hl (OMm.out _ bb0) (HT.out.below bb0)).mono ?_
  rintro e w1 ⟨rfl, b1⟩
  have bb1 := Below.next bb0 b1
  replace km := km.below b1
  replace ko := ko.below b1
  by_cases hk : okM m = true
  · rw [hk]
    have HV := Lib.hid (show ratM m = (makeQ m.2 (ofZ 1)).1 by unfold ratM; rw [if_pos hk])
    clear hk
    have km_c0 := km.here.cell 0 _ rfl
    have km_c1 := km.here.cell 1 _ rfl
    have km_c2 := km.here.cell 2 _ rfl
    go_wp2_with fail
    clear km_c0 km_c1 km_c2
    refine (implRatInt_any _ m.2 _ hz (OSm.out _ bb1) (HS.out.below bb1)).mono ?_
    generalize makeQ m.2 (ofZ 1) = Q at *
    rintro e w2 ⟨uf, Sf, rfl, of, lf, b2⟩
    obtain ⟨Af, cf, Bf, df, rfl⟩ := ownQ_form of.here
    have bb2 := Below.next bb1 b2
    have al := below_al (Below.refl w2.heap.size w2) (.cells #[.bool Q.1.1.1, .slice Af Q.1.1.2.length cf, .slice Bf Q.1.2.length df] 36)
    have kr := box_new w2 #[.bool Q.1.1.1, .slice Af Q.1.1.2.length cf, .slice Bf Q.1.2.length df] 36
    have z1 := b1.size
    have hz0 := HKO.out
    have HW := Lib.hid (newV_chg (φ := fun v => OwnQ v Q.1) (T := [w.heap.size + 1]) (of.below al) (fun i hi hm => by have := (lf i hi).1; simp at hm; omega) (fun i hi => by simp at hi; omega) (fun i hi => by have := (lf i hi).1; have := bb1.size; omega) (Below.next bb2 al))
    have ko2 := (ko.below b2).below al
    have cz0 := ko2.here.cell 0 _ rfl
    have cz1 := ko2.here.cell 1 _ rfl
    have cz2 := ko2.here.cell 2 _ rfl
    have fz0 := Lib.frozen_of_heap ko2.here 0
    have fz1 := Lib.frozen_of_heap ko2.here 1
    have fz2 := Lib.frozen_of_heap ko2.here 2
    have kr0 := kr.here.cell 0 _ rfl
    have kr1 := kr.here.cell 1 _ rfl
    have kr2 := kr.here.cell 2 _ rfl
    clear ko ko2 of al kr km bb2 b2 hz0
    go_wp2
    refine bodyPost_ret (v := .agg #[.bool Q.1.1.1, .slice Af Q.1.1.2.length cf, .slice Bf Q.1.2.length df]) (by simp [results, Tryz.results21, go_sem, cz0, cz1, cz2]) rfl ?_
    rw [HV.out]
    refine HW.out _ ?_
    repeat (first | exact Chg.refl _ _ | refine Chg.setCell ?_ (by simp) _)
  · have hk' : okM m = false := by simpa using hk
    rw [hk']
    have HV := Lib.hid (show ratM m = zeroQ by unfold ratM; rw [if_neg hk])
    clear hk hk'
    have cz0 := ko.here.cell 0 _ rfl
    have cz1 := ko.here.cell 1 _ rfl
    have cz2 := ko.here.cell 2 _ rfl
    have fz0 := Lib.frozen_of_heap ko.here 0
    have fz1 := Lib.frozen_of_heap ko.here 1
    have fz2 := Lib.frozen_of_heap ko.here 2
    have HW := Lib.hid (newV_chg (φ := fun v => OwnQ v zeroQ) (v := .agg #[.bool false, .slice none 0 0, .slice none 0 0]) (T := [w.heap.size + 1]) (S := []) ⟨⟨_, _, rfl, World.ownsRow_nil _ _ _ _, World.ownsRow_nil _ _ _ _, fun g hg => by cases hg⟩, fun _ hg => absurd hg List.not_mem_nil, fun w' _ => ⟨_, _, rfl, World.ownsRow_nil _ _ _ _, World.ownsRow_nil _ _ _ _, fun g hg => by cases hg⟩⟩ (fun i hi => absurd hi List.not_mem_nil) (fun i hi => by simp at hi; omega) (fun i hi => absurd hi List.not_mem_nil) bb1)
    clear ko km
    go_wp2
    refine bodyPost_ret (v := .agg #[.bool false, .slice none 0 0, .slice none 0 0]) (by simp [results, Tryz.results21, go_sem, cz0, cz1, cz2]) rfl ?_
    rw [HV.out]
    refine HW.out _ ?_
    repeat (first | exact Chg.refl _ _ | refine Chg.setCell ?_ (by simp) _)
end Go.Proofs.YtehkknphcflofaaGreatDoor

namespace Go.Proofs.YtehkknphcflofaaGreatDoor
open Go.ChangeShapes Go.WideShapes Go.ChangeAt Go.RowKit Go.Joins

theorem Tryz.cellsMoney : Tryz.prog.cellsOf 88 = 3 := by kernel_rfl
/-- three cells that read as an amount -/
theorem money_cells {H : Type} {enc : TypeId × Value → H} {W : World} {fuel : Nat} {c0 c1 c2 : Value} {y : DataW H × List MemPlace}
    (hf : DataW.trod enc Tryz.prog W 0 (fun _ => true) true fuel 88 [c0, c1, c2] = some y) :
    ∃ x : MI, ∃ u, c0 = .string x.1 ∧ c1 = .bool x.2.1 ∧ c2 = u ∧ Row W 0 W.heap.size u (intsV x.2.2) ∧ x.1.size ≤ maxLen ∧ x.2.2.length ≤ maxLen := by
  obtain ⟨y0, y1, n, hx, _, h0, h1⟩ := trod_struct2 Tryz.underlying88 hf
  have k0 : Tryz.prog.cellsOf 86 = 2 := Tryz.cellsSigned
  have k1 : Tryz.prog.cellsOf 28 = 1 := by kernel_rfl
  have k2 : Tryz.prog.cellsOf 9 = 1 := by kernel_rfl
  have kb : Tryz.prog.cellsOf 4 = 1 := by kernel_rfl
  simp only [k0, k2, List.drop_zero, List.take_succ_cons, List.take_zero, List.drop_succ_cons] at h0 h1
  obtain ⟨z0, z1, m, _, _, g0, g1⟩ := trod_struct2 Tryz.underlying86 h1
  simp only [kb, k1, List.drop_zero, List.take_succ_cons, List.take_zero, List.drop_succ_cons] at g0 g1
  obtain ⟨s, e2, _, hs⟩ := DataW.trod_string Tryz.underlying9 h0
  obtain ⟨b, e0, _⟩ := DataW.trod_bool Tryz.underlying4 g0
  obtain ⟨a1, l1, cc1, e1⟩ := slice_form Tryz.underlying28 g1
  simp at e0 e1 e2
  subst e0 e1 e2
  obtain ⟨xs, hr, hl⟩ := cell_ints Tryz.underlying28 Tryz.underlying3 Tryz.cellsInt1 g1
  exact ⟨(s, (b, xs)), _, rfl, rfl, rfl, hr, hs, hl⟩
set_option maxHeartbeats 400000 in
set_option maxRecDepth 100000 in
theorem arg_money {H : Type} {enc : TypeId × Value → H} {W : World} {base : Nat} {v : Value} {d : DataW H} {p : List MemPlace}
    (hv : Value.okWide Tryz.prog W .any base 88 v) (h : DataW.Trod enc Tryz.prog W 0 (fun _ => true) true 88 v d p) : ∃ x : MI, RdM W v x ∧ x.1.size ≤ maxLen ∧ x.2.2.length ≤ maxLen := by
  obtain ⟨cs, rfl, hsz⟩ := okWide_struct Tryz.underlying88 hv
  obtain ⟨c0, c1, c2, rfl⟩ := array3 (hsz.trans Tryz.cellsMoney)
  obtain ⟨fuel, hf⟩ := h
  obtain ⟨x, u, rfl, rfl, rfl, hr, h1, h2⟩ := money_cells (by simpa [Value.cells] using hf)
  exact ⟨x, ⟨_, rfl, hr⟩, h1, h2⟩
end Go.Proofs.YtehkknphcflofaaGreatDoor

namespace Go.Proofs.YtehkknphcflofaaGreatDoor
open Go.RowKit

theorem subN_sz {x N : QI} {b : Bool} (e : negQ x = (N, b)) : szQ N ≤ 1048576 := by
  have e1 : N = (negQ x).1 := by rw [e]
  rw [e1]
  unfold negQ
  split
  · rename_i h
    have h1 := (parts_of h).d50
    have h2 : (negS x.1).2.length ≤ 50 := by unfold negS; split; exact ofZ_len _; exact Nat.zero_le _
    unfold szQ szS szI
    simp only
    omega
  · decide
set_option maxHeartbeats 2000000 in
set_option maxRecDepth 100000 in
theorem specRatSub_any (vr : Value) (vs : Value) (r s : QI) (w : World) (hzr : szQ r ≤ 1048576) (hzs : szQ s ≤ 1048576) (hr : OwnQ vr r w) (hs : OwnQ vs s w) :
    Calls Tryz.prog 256 #[vr, vs] w (PostQb (subQ r s).1 (subQ r s).2 w) := by
  have Hr := Lib.hid hr
  obtain ⟨Ar, cr, Br, dr, rfl⟩ := ownQ_form hr
  have OQr := Lib.hid (show ∀ W, Below w.heap.size w W → OwnQ (.agg #[.bool r.1.1, .slice Ar r.1.2.length cr, .slice Br r.2.length dr]) r W from fun W hb => OwnQ.below Hr.out hb)
  have OUr := Lib.hid (show ∀ W, Below w.heap.size w W → OwnI (.slice Ar r.1.2.length cr) r.1.2 W from fun W hb => (ownQ_open (OQr.out W hb)).2.1)
  have ODr := Lib.hid (show ∀ W, Below w.heap.size w W → OwnI (.slice Br r.2.length dr) r.2 W from fun W hb => (ownQ_open (OQr.out W hb)).2.2.1)
  have OSr := Lib.hid (show ∀ W, Below w.heap.size w W → OwnS (.agg #[.bool r.1.1, .slice Ar r.1.2.length cr]) r.1 W from fun W hb => OwnS.mk (OUr.out W hb))
  clear hr
  have Hs := Lib.hid hs
  obtain ⟨As, cs, Bs, ds, rfl⟩ := ownQ_form hs
  have OQs := Lib.hid (show ∀ W, Below w.heap.size w W → OwnQ (.agg #[.bool s.1.1, .slice As s.1.2.length cs, .slice Bs s.2.length ds]) s W from fun W hb => OwnQ.below Hs.out hb)
  have OUs := Lib.hid (show ∀ W, Below w.heap.size w W → OwnI (.slice As s.1.2.length cs) s.1.2 W from fun W hb => (ownQ_open (OQs.out W hb)).2.1)
  have ODs := Lib.hid (show ∀ W, Below w.heap.size w W → OwnI (.slice Bs s.2.length ds) s.2 W from fun W hb => (ownQ_open (OQs.out W hb)).2.2.1)
  have OSs := Lib.hid (show ∀ W, Below w.heap.size w W → OwnS (.agg #[.bool s.1.1, .slice As s.1.2.length cs]) s.1 W from fun W hb => OwnS.mk (OUs.out W hb))
  clear hs
  have bb0 : Below w.heap.size w (((w.alloc (.cells #[.bool r.1.1, .slice Ar r.1.2.length cr, .slice Br r.2.length dr] 36)).alloc (.cells #[.bool s.1.1, .slice As s.1.2.length cs, .slice Bs s.2.length ds] 36)).alloc (.cells #[.bool false, .slice none 0 0, .slice none 0 0] 36)) := below_al (below_al (below_al (Below.refl _ _) _) _) _
  have kr := (box_new w #[.bool r.1.1, .slice Ar r.1.2.length cr, .slice Br r.2.length dr] 36).below (below_al (below_al (Below.refl _ _) (.cells #[.bool s.1.1, .slice As s.1.2.length cs, .slice Bs s.2.length ds] 36)) (.cells #[.bool false, .slice none 0 0, .slice none 0 0] 36))
  have ks := (box_new (w.alloc (.cells #[.bool r.1.1, .slice Ar r.1.2.length cr, .slice Br r.2.length dr] 36)) #[.bool s.1.1, .slice As s.1.2.length cs, .slice Bs s.2.length ds] 36).below (below_al (Below.refl _ _) (.cells #[.bool false, .slice none 0 0, .slice none 0 0] 36))
  rw [show (w.alloc (.cells #[.bool r.1.1, .slice Ar r.1.2.length cr, .slice Br r.2.length dr] 36)).heap.size = w.heap.size + 1 by simp] at ks
  have ko := (box_new ((w.alloc (.cells #[.bool r.1.1, .slice Ar r.1.2.length cr, .slice Br r.2.length dr] 36)).alloc (.cells #[.bool s.1.1, .slice As s.1.2.length cs, .slice Bs s.2.length ds] 36)) #[.bool false, .slice none 0 0, .slice none 0 0] 36)
  rw [show ((w.alloc (.cells #[.bool r.1.1, .slice Ar r.1.2.length cr, .slice Br r.2.length dr] 36)).alloc (.cells #[.bool s.1.1, .slice As s.1.2.length cs, .slice Bs s.2.length ds] 36)).heap.size = w.heap.size + 1 + 1 by simp] at ko
  obtain ⟨⟨N, bo⟩, hQ⟩ : ∃ q, negQ s = q := ⟨_, rfl⟩
  have EQ := Lib.hid hQ
  have hzN := subN_sz hQ
  have HD := Lib.hid (show subQ r s = if bo = true then addQ r N else (zeroQ, false) by unfold subQ; rw [hQ])
  obtain ⟨Q, hA⟩ : ∃ Q, addQ r N = Q := ⟨_, rfl⟩
  have EA := Lib.hid hA
  rw [hA] at HD
  clear hQ hA
  have HKO := Lib.hid (ko.lt (w.heap.size + 1 + 1) (by simp))
  go_enter Tryz.func256, Tryz.ntmps256
  have ks_c0 := ks.here.cell 0 _ rfl
  have ks_c1 := ks.here.cell 1 _ rfl
  have ks_c2 := ks.here.cell 2 _ rfl
  go_wp2_with fail
  clear ks_c0 ks_c1 ks_c2
  refine (show Calls _ _ _ _ (PostQb N bo _) from (specRatNeg_any _ s _ hzs (OQs.out _ bb0)).mono fun _ _ h => postQb_eq EQ.out h).mono ?_
  rintro e w1 ⟨un, Sn, rfl, on, ln, b1⟩
  obtain ⟨An, cn, Bn, dn, rfl⟩ := ownQ_form on.here
  have bb1 := Below.next bb0 b1
  replace kr := kr.below b1
  replace ks := ks.below b1
  replace ko := ko.below b1
  cases bo with
  | true =>
    have HV := Lib.hid (show subQ r s = Q by rw [HD.out]; rfl)
    clear HD
    have kt := box_new (w1) #[.bool N.1.1, .slice An N.1.2.length cn, .slice Bn N.2.length dn] 36
    have alt := below_al (Below.refl (w1).heap.size (w1)) (.cells #[.bool N.1.1, .slice An N.1.2.length cn, .slice Bn N.2.length dn] 36)
    have bbt := Below.next bb1 alt
    replace kr := kr.below alt
    replace ks := ks.below alt
    replace ko := ko.below alt
    replace on := on.below alt
    have kt_c0 := kt.here.cell 0 _ rfl
    have kt_c1 := kt.here.cell 1 _ rfl
    have kt_c2 := kt.here.cell 2 _ rfl
    have kr_c0 := kr.here.cell 0 _ rfl
    have kr_c1 := kr.here.cell 1 _ rfl
    have kr_c2 := kr.here.cell 2 _ rfl
    go_wp2_with fail
    clear kt_c0 kt_c1 kt_c2 kr_c0 kr_c1 kr_c2
    refine ((specRatAdd_any _ _ r N _ hzr hzN (OQr.out _ bbt) on.here).mono fun _ _ h => postQb_eq EA.out h).mono ?_
    rintro e w2 ⟨uf, Sf, rfl, of, lf, b2⟩
    obtain ⟨Af, cf, Bf, df, rfl⟩ := ownQ_form of.here
    have bb2 := Below.next bbt b2
    replace kr := kr.below b2
    replace ks := ks.below b2
    replace ko := ko.below b2
    replace on := on.below b2
    replace kt := kt.below b2
    clear on kt kr ks
    have HW := Lib.hid (newQb_at (r := w.heap.size + 1 + 1) (b := Q.2) of lf (by have h1 := HKO.out; have h2 := b1.size; have h3 := alt.size; omega) (by omega) bb2)
    have cz0 := ko.here.cell 0 _ rfl
    have fz0 := Lib.frozen_of_heap ko.here 0
    have cz1 := ko.here.cell 1 _ rfl
    have fz1 := Lib.frozen_of_heap ko.here 1
    have cz2 := ko.here.cell 2 _ rfl
    have fz2 := Lib.frozen_of_heap ko.here 2
    clear of ko
    go_wp2
    refine bodyPost_ret (v := .tuple #[.agg #[.bool _, .slice Af _ cf, .slice Bf _ df], .bool _]) (by simp [results, Tryz.results256, go_sem, cz0, cz1, cz2]; exact ⟨⟨rfl, rfl, rfl⟩, rfl⟩) rfl ?_
    rw [HV.out]
    exact HW.out
  | false =>
    have HV := Lib.hid (show subQ r s = (zeroQ, false) by rw [HD.out]; rfl)
    clear HD on
    have kt := box_new (w1) #[.bool N.1.1, .slice An N.1.2.length cn, .slice Bn N.2.length dn] 36
    have alt := below_al (Below.refl (w1).heap.size (w1)) (.cells #[.bool N.1.1, .slice An N.1.2.length cn, .slice Bn N.2.length dn] 36)
    have bbt := Below.next bb1 alt
    replace kr := kr.below alt
    replace ks := ks.below alt
    replace ko := ko.below alt
    have ko_c0 := ko.here.cell 0 _ rfl
    have ko_c1 := ko.here.cell 1 _ rfl
    have ko_c2 := ko.here.cell 2 _ rfl
    have cz0 := ko.here.cell 0 _ rfl
    have fz0 := Lib.frozen_of_heap ko.here 0
    have cz1 := ko.here.cell 1 _ rfl
    have fz1 := Lib.frozen_of_heap ko.here 1
    have cz2 := ko.here.cell 2 _ rfl
    have fz2 := Lib.frozen_of_heap ko.here 2
    go_wp2
    refine bodyPost_ret (v := .tuple #[.agg #[.bool false, .slice none 0 0, .slice none 0 0], .bool false]) (by simp [results, Tryz.results256, go_sem, cz0, cz1, cz2]) rfl ?_
    rw [HV.out]
    first | exact newQb_zero _ bbt | exact newQb_zero _ (below_set3 bbt (by omega))
end Go.Proofs.YtehkknphcflofaaGreatDoor

namespace Go.Proofs.YtehkknphcflofaaGreatDoor
open Go.RowKit

set_option maxHeartbeats 4000000 in
set_option maxRecDepth 100000 in
theorem specRatRest_any (vr : Value) (r : QI) (m : Int) (w : World) (hz : szQ r ≤ 1048576) (hr : OwnQ vr r w) :
    Calls Tryz.prog 201 #[vr, .int .i64 m] w (PostSQb (restS r m) (restQ r m) (restB r m) w) := by
  have Hr := Lib.hid hr
  obtain ⟨Ar, cr, Br, dr, rfl⟩ := ownQ_form hr
  have OQr := Lib.hid (show ∀ W, Below w.heap.size w W → OwnQ (.agg #[.bool r.1.1, .slice Ar r.1.2.length cr, .slice Br r.2.length dr]) r W from fun W hb => OwnQ.below Hr.out hb)
  have OUr := Lib.hid (show ∀ W, Below w.heap.size w W → OwnI (.slice Ar r.1.2.length cr) r.1.2 W from fun W hb => (ownQ_open (OQr.out W hb)).2.1)
  have ODr := Lib.hid (show ∀ W, Below w.heap.size w W → OwnI (.slice Br r.2.length dr) r.2 W from fun W hb => (ownQ_open (OQr.out W hb)).2.2.1)
  have OSr := Lib.hid (show ∀ W, Below w.heap.size w W → OwnS (.agg #[.bool r.1.1, .slice Ar r.1.2.length cr]) r.1 W from fun W hb => OwnS.mk (OUr.out W hb))
  clear hr
  have bb0 : Below w.heap.size w (((w.alloc (.cells #[.bool r.1.1, .slice Ar r.1.2.length cr, .slice Br r.2.length dr] 36)).alloc (.cells #[.bool false, .slice none 0 0] 30)).alloc (.cells #[.bool false, .slice none 0 0, .slice none 0 0] 36)) := below_al (below_al (below_al (Below.refl _ _) _) _) _
  have kr := (box_new w #[.bool r.1.1, .slice Ar r.1.2.length cr, .slice Br r.2.length dr] 36).below (below_al (below_al (Below.refl _ _) (.cells #[.bool false, .slice none 0 0] 30)) (.cells #[.bool false, .slice none 0 0, .slice none 0 0] 36))
  have ko := (box_new (w.alloc (.cells #[.bool r.1.1, .slice Ar r.1.2.length cr, .slice Br r.2.length dr] 36)) #[.bool false, .slice none 0 0] 30).below (below_al (Below.refl _ _) (.cells #[.bool false, .slice none 0 0, .slice none 0 0] 36))
  rw [show (w.alloc (.cells #[.bool r.1.1, .slice Ar r.1.2.length cr, .slice Br r.2.length dr] 36)).heap.size = w.heap.size + 1 by simp] at ko
  have kp := (box_new ((w.alloc (.cells #[.bool r.1.1, .slice Ar r.1.2.length cr, .slice Br r.2.length dr] 36)).alloc (.cells #[.bool false, .slice none 0 0] 30)) #[.bool false, .slice none 0 0, .slice none 0 0] 36)
  rw [show ((w.alloc (.cells #[.bool r.1.1, .slice Ar r.1.2.length cr, .slice Br r.2.length dr] 36)).alloc (.cells #[.bool false, .slice none 0 0] 30)).heap.size = w.heap.size + 1 + 1 by simp] at kp
  have HKO := Lib.hid (ko.lt (w.heap.size + 1) (by simp))
  have HKP := Lib.hid (kp.lt (w.heap.size + 1 + 1) (by simp))
  obtain ⟨X, hX⟩ : ∃ X, (roundR r m).1 = X := ⟨_, rfl⟩
  obtain ⟨Y, hY⟩ : ∃ Y, (makeQ X (ofZ 1)).1 = Y := ⟨_, rfl⟩
  obtain ⟨Z, hZ⟩ : ∃ Z, (subQ r Y).1 = Z := ⟨_, rfl⟩
  have zX : szS X ≤ 1048576 := by rw [← hX]; exact roundR_sz r m
  have zY : szQ Y ≤ 1048576 := by rw [← hY]; exact makeQ_szQ _ _
  by_cases hb : okQ r = true ∧ modeB m = true
  · obtain ⟨r1, r2, r3, r4⟩ := rest_all hb.1 hb.2
    have ER := Lib.hid (show roundR r m = (X, true) by rw [r1, ← hX, r1])
    have rp := rest_parts hb.1 m
    have e0 : roundS r m = X := by rw [← hX, r1]
    rw [e0] at rp r3 r4
    rw [hY] at rp r4
    rw [hZ] at r4
    have EM := Lib.hid (show makeQ X (ofZ 1) = (Y, true) by rw [← hY, ← rp.1])
    have ES := Lib.hid (show subQ r Y = (Z, true) by rw [← hZ, ← rp.2])
    have HV := Lib.hid (show restS r m = X ∧ restQ r m = Z ∧ restB r m = true from ⟨r3, r4, r2⟩)
    clear rp e0
    clear hX hY hZ r1 r2 r3 r4 hb
    go_enter Tryz.func201, Tryz.ntmps201
    have kr_c0 := kr.here.cell 0 _ rfl
    have kr_c1 := kr.here.cell 1 _ rfl
    have kr_c2 := kr.here.cell 2 _ rfl
    go_wp2_with fail
    clear kr_c0 kr_c1 kr_c2
    refine ((specRatRound_any _ r m _ hz (OQr.out _ bb0)).mono fun _ _ h => postSb_is ER.out h).mono ?_
    rintro e w1 ⟨ux, Sx, rfl, ox, lx, b1⟩
    obtain ⟨Ax, cx, rfl⟩ := ownS_form ox.here
    have bb1 := Below.next bb0 b1
    replace kr := kr.below b1
    replace ko := ko.below b1
    replace kp := kp.below b1
    have kx := box_new (w1) #[.bool X.1, .slice Ax X.2.length cx] 30
    have alx := below_al (Below.refl (w1).heap.size (w1)) (.cells #[.bool X.1, .slice Ax X.2.length cx] 30)
    have bbx := Below.next bb1 alx
    replace kr := kr.below alx
    replace ko := ko.below alx
    replace kp := kp.below alx
    replace ox := ox.below alx
    have kx_c0 := kx.here.cell 0 _ rfl
    have kx_c1 := kx.here.cell 1 _ rfl
    go_wp2_with fail
    clear kx_c0 kx_c1
    refine ((specRatInt_any _ X _ zX ox.here).mono fun _ _ h => postQb_is EM.out h).mono ?_
    rintro e w2 ⟨uy, Sy, rfl, oy, ly, b2⟩
    obtain ⟨Ay, cy, By, dy, rfl⟩ := ownQ_form oy.here
    have bb2 := Below.next bbx b2
    replace kr := kr.below b2
    replace ko := ko.below b2
    replace kp := kp.below b2
    replace ox := ox.below b2
    replace kx := kx.below b2
    have ky := box_new (w2) #[.bool Y.1.1, .slice Ay Y.1.2.length cy, .slice By Y.2.length dy] 36
    have aly := below_al (Below.refl (w2).heap.size (w2)) (.cells #[.bool Y.1.1, .slice Ay Y.1.2.length cy, .slice By Y.2.length dy] 36)
    have bby := Below.next bb2 aly
    replace kr := kr.below aly
    replace ko := ko.below aly
    replace kp := kp.below aly
    replace ox := ox.below aly
    replace kx := kx.below aly
    replace oy := oy.below aly
    have kr_c0 := kr.here.cell 0 _ rfl
    have kr_c1 := kr.here.cell 1 _ rfl
    have kr_c2 := kr.here.cell 2 _ rfl
    have ky_c0 := ky.here.cell 0 _ rfl
    have ky_c1 := ky.here.cell 1 _ rfl
    have ky_c2 := ky.here.cell 2 _ rfl
    go_wp2_with fail
    clear kr_c0 kr_c1 kr_c2 ky_c0 ky_c1 ky_c2
    refine ((specRatSub_any _ _ r Y _ hz zY (OQr.out _ bby) oy.here).mono fun _ _ h => postQb_is ES.out h).mono ?_
    rintro e w3 ⟨uz, Sz, rfl, oz, lz, b3⟩
    obtain ⟨Az, cz, Bz, dz, rfl⟩ := ownQ_form oz.here
    have bb3 := Below.next bby b3
    replace kr := kr.below b3
    replace ko := ko.below b3
    replace kp := kp.below b3
    replace ox := ox.below b3
    replace kx := kx.below b3
    replace oy := oy.below b3
    replace ky := ky.below b3
    have kz := box_new (w3) #[.bool Z.1.1, .slice Az Z.1.2.length cz, .slice Bz Z.2.length dz] 36
    have alz := below_al (Below.refl (w3).heap.size (w3)) (.cells #[.bool Z.1.1, .slice Az Z.1.2.length cz, .slice Bz Z.2.length dz] 36)
    have bbz := Below.next bb3 alz
    replace kr := kr.below alz
    replace ko := ko.below alz
    replace kp := kp.below alz
    replace ox := ox.below alz
    replace kx := kx.below alz
    replace oy := oy.below alz
    replace ky := ky.below alz
    replace oz := oz.below alz
    have z1 := b1.size
    have z2 := b2.size
    have z3 := b3.size
    have zx := alx.size
    have zy := aly.size
    have zz := alz.size
    have HKX := Lib.hid (kx.lt _ (List.mem_singleton.2 rfl))
    have HW := Lib.hid (newSQb_at (b := true) (r := w.heap.size + 1) (p := w.heap.size + 1 + 1) ox oz (within_up lx (Nat.le_refl _) (Nat.le_trans zx (Nat.le_trans z2 (Nat.le_trans zy (Nat.le_trans z3 zz))))) (within_up lz (Nat.le_refl _) zz) (Within.apart lx lz (.inl (Nat.le_trans zx (Nat.le_trans z2 zy)))) HKP.out (Nat.lt_of_lt_of_le HKP.out (Nat.le_trans z1 (Nat.le_trans zx (Nat.le_trans z2 zy)))) (by omega) (by omega) (by omega) bbz)
    have hs1 := HKP.out
    have hs2 := Nat.lt_of_lt_of_le HKP.out z1
    have hs3 := Nat.lt_of_lt_of_le hs2 (Nat.le_trans zx (Nat.le_trans z2 (Nat.le_trans zy z3)))
    have hn_w1_1 : ¬ w1.heap.size = w.heap.size + 1 := by omega
    have hn_w1_1' : ¬ w.heap.size + 1 = w1.heap.size := by omega
    have hn_w1_2 : ¬ w1.heap.size = w.heap.size + 1 + 1 := by omega
    have hn_w1_2' : ¬ w.heap.size + 1 + 1 = w1.heap.size := by omega
    have hn_w3_1 : ¬ w3.heap.size = w.heap.size + 1 := by omega
    have hn_w3_1' : ¬ w.heap.size + 1 = w3.heap.size := by omega
    have hn_w3_2 : ¬ w3.heap.size = w.heap.size + 1 + 1 := by omega
    have hn_w3_2' : ¬ w.heap.size + 1 + 1 = w3.heap.size := by omega
    clear hs1 hs2 hs3
    have cko0 := ko.here.cell 0 _ rfl
    have cko1 := ko.here.cell 1 _ rfl
    have fko0 := Lib.frozen_of_heap ko.here 0
    have fko1 := Lib.frozen_of_heap ko.here 1
    have ckp0 := kp.here.cell 0 _ rfl
    have ckp1 := kp.here.cell 1 _ rfl
    have ckp2 := kp.here.cell 2 _ rfl
    have fkp0 := Lib.frozen_of_heap kp.here 0
    have fkp1 := Lib.frozen_of_heap kp.here 1
    have fkp2 := Lib.frozen_of_heap kp.here 2
    have ckx0 := kx.here.cell 0 _ rfl
    have ckx1 := kx.here.cell 1 _ rfl
    have ckz0 := kz.here.cell 0 _ rfl
    have ckz1 := kz.here.cell 1 _ rfl
    have ckz2 := kz.here.cell 2 _ rfl
    clear ox oy oz ko kp kr kx ky kz z1 z2 z3 zx zy zz lx ly lz
    go_wp2_with fail
    go_region
    all_goals (go_wp2; refine bodyPost_ret (v := .tuple #[.agg #[.bool X.1, .slice Ax X.2.length cx], .agg #[.bool Z.1.1, .slice Az Z.1.2.length cz, .slice Bz Z.2.length dz], .bool true]) (by simp [results, Tryz.results201, go_sem, cko0, cko1, ckp0, ckp1, ckp2]) rfl ?_)
    all_goals (rw [HV.out.1, HV.out.2.1, HV.out.2.2]; refine HW.out _ ?_; repeat (first | exact Chg.refl _ _ | refine Chg.setCell ?_ (by simp) _ | refine Chg.drew1 ?_))
  · obtain ⟨r1, r2, r3, r4⟩ := rest_none hb
    have ER := Lib.hid (show roundR r m = (X, false) by rw [r1, ← hX, r1])
    have HV := Lib.hid (show restS r m = zeroS ∧ restQ r m = zeroQ ∧ restB r m = false from ⟨r3, r4, r2⟩)
    obtain ⟨by_, hby⟩ : ∃ b, (makeQ X (ofZ 1)).2 = b := ⟨_, rfl⟩
    obtain ⟨bz_, hbz⟩ : ∃ b, (subQ r Y).2 = b := ⟨_, rfl⟩
    have EM := Lib.hid (show makeQ X (ofZ 1) = (Y, by_) by rw [← hY, ← hby])
    have ES := Lib.hid (show subQ r Y = (Z, bz_) by rw [← hZ, ← hbz])
    clear hby hbz
    clear hX hY hZ r1 r2 r3 r4 hb
    go_enter Tryz.func201, Tryz.ntmps201
    have kr_c0 := kr.here.cell 0 _ rfl
    have kr_c1 := kr.here.cell 1 _ rfl
    have kr_c2 := kr.here.cell 2 _ rfl
    go_wp2_with fail
    clear kr_c0 kr_c1 kr_c2
    refine ((specRatRound_any _ r m _ hz (OQr.out _ bb0)).mono fun _ _ h => postSb_is ER.out h).mono ?_
    rintro e w1 ⟨ux, Sx, rfl, ox, lx, b1⟩
    obtain ⟨Ax, cx, rfl⟩ := ownS_form ox.here
    have bb1 := Below.next bb0 b1
    replace kr := kr.below b1
    replace ko := ko.below b1
    replace kp := kp.below b1
    have kx := box_new (w1) #[.bool X.1, .slice Ax X.2.length cx] 30
    have alx := below_al (Below.refl (w1).heap.size (w1)) (.cells #[.bool X.1, .slice Ax X.2.length cx] 30)
    have bbx := Below.next bb1 alx
    replace kr := kr.below alx
    replace ko := ko.below alx
    replace kp := kp.below alx
    replace ox := ox.below alx
    have kx_c0 := kx.here.cell 0 _ rfl
    have kx_c1 := kx.here.cell 1 _ rfl
    go_wp2_with fail
    clear kx_c0 kx_c1
    refine ((specRatInt_any _ X _ zX ox.here).mono fun _ _ h => postQb_is EM.out h).mono ?_
    rintro e w2 ⟨uy, Sy, rfl, oy, ly, b2⟩
    obtain ⟨Ay, cy, By, dy, rfl⟩ := ownQ_form oy.here
    have bb2 := Below.next bbx b2
    replace kr := kr.below b2
    replace ko := ko.below b2
    replace kp := kp.below b2
    replace ox := ox.below b2
    replace kx := kx.below b2
    have ky := box_new (w2) #[.bool Y.1.1, .slice Ay Y.1.2.length cy, .slice By Y.2.length dy] 36
    have aly := below_al (Below.refl (w2).heap.size (w2)) (.cells #[.bool Y.1.1, .slice Ay Y.1.2.length cy, .slice By Y.2.length dy] 36)
    have bby := Below.next bb2 aly
    replace kr := kr.below aly
    replace ko := ko.below aly
    replace kp := kp.below aly
    replace ox := ox.below aly
    replace kx := kx.below aly
    replace oy := oy.below aly
    have kr_c0 := kr.here.cell 0 _ rfl
    have kr_c1 := kr.here.cell 1 _ rfl
    have kr_c2 := kr.here.cell 2 _ rfl
    have ky_c0 := ky.here.cell 0 _ rfl
    have ky_c1 := ky.here.cell 1 _ rfl
    have ky_c2 := ky.here.cell 2 _ rfl
    go_wp2_with fail
    clear kr_c0 kr_c1 kr_c2 ky_c0 ky_c1 ky_c2
    refine ((specRatSub_any _ _ r Y _ hz zY (OQr.out _ bby) oy.here).mono fun _ _ h => postQb_is ES.out h).mono ?_
    rintro e w3 ⟨uz, Sz, rfl, oz, lz, b3⟩
    obtain ⟨Az, cz, Bz, dz, rfl⟩ := ownQ_form oz.here
    have bb3 := Below.next bby b3
    replace kr := kr.below b3
    replace ko := ko.below b3
    replace kp := kp.below b3
    replace ox := ox.below b3
    replace kx := kx.below b3
    replace oy := oy.below b3
    replace ky := ky.below b3
    have kz := box_new (w3) #[.bool Z.1.1, .slice Az Z.1.2.length cz, .slice Bz Z.2.length dz] 36
    have alz := below_al (Below.refl (w3).heap.size (w3)) (.cells #[.bool Z.1.1, .slice Az Z.1.2.length cz, .slice Bz Z.2.length dz] 36)
    have bbz := Below.next bb3 alz
    replace kr := kr.below alz
    replace ko := ko.below alz
    replace kp := kp.below alz
    replace ox := ox.below alz
    replace kx := kx.below alz
    replace oy := oy.below alz
    replace ky := ky.below alz
    replace oz := oz.below alz
    have cko0 := ko.here.cell 0 _ rfl
    have fko0 := Lib.frozen_of_heap ko.here 0
    have cko1 := ko.here.cell 1 _ rfl
    have fko1 := Lib.frozen_of_heap ko.here 1
    have ckp0 := kp.here.cell 0 _ rfl
    have fkp0 := Lib.frozen_of_heap kp.here 0
    have ckp1 := kp.here.cell 1 _ rfl
    have fkp1 := Lib.frozen_of_heap kp.here 1
    have ckp2 := kp.here.cell 2 _ rfl
    have fkp2 := Lib.frozen_of_heap kp.here 2
    go_wp2
    refine bodyPost_ret (v := .tuple #[.agg #[.bool false, .slice none 0 0], .agg #[.bool false, .slice none 0 0, .slice none 0 0], .bool false]) (by simp [results, Tryz.results201, go_sem, cko0, cko1, ckp0, ckp1, ckp2]) rfl ?_
    rw [HV.out.1, HV.out.2.1, HV.out.2.2]
    first | exact newSQb_zero bbz | exact newSQb_zero (below_set3 (below_set2 bbz (by omega)) (by omega))
end Go.Proofs.YtehkknphcflofaaGreatDoor

namespace Go.Proofs.YtehkknphcflofaaGreatDoor
open Go.RowKit

set_option maxHeartbeats 4000000 in
set_option maxRecDepth 100000 in
theorem specRatMoney_any (cu : ByteArray) (vr : Value) (r : QI) (m : Int) (w : World) (hz : szQ r ≤ 1048576) (hr : OwnQ vr r w) :
    Calls Tryz.prog 132 #[.string cu, vr, .int .i64 m] w (PostMQb (rmM cu r m) (rmQ cu r m) (rmB cu r m) w) := by
  have Hr := Lib.hid hr
  obtain ⟨Ar, cr, Br, dr, rfl⟩ := ownQ_form hr
  have OQr := Lib.hid (show ∀ W, Below w.heap.size w W → OwnQ (.agg #[.bool r.1.1, .slice Ar r.1.2.length cr, .slice Br r.2.length dr]) r W from fun W hb => OwnQ.below Hr.out hb)
  clear hr
  have bb0 : Below w.heap.size w (((w.alloc (.cells #[.bool r.1.1, .slice Ar r.1.2.length cr, .slice Br r.2.length dr] 36)).alloc (.cells #[.string ⟨#[]⟩, .bool false, .slice none 0 0] 32)).alloc (.cells #[.bool false, .slice none 0 0, .slice none 0 0] 36)) := below_al (below_al (below_al (Below.refl _ _) _) _) _
  have kr := (box_new w #[.bool r.1.1, .slice Ar r.1.2.length cr, .slice Br r.2.length dr] 36).below (below_al (below_al (Below.refl _ _) (.cells #[.string ⟨#[]⟩, .bool false, .slice none 0 0] 32)) (.cells #[.bool false, .slice none 0 0, .slice none 0 0] 36))
  have ko := (box_new (w.alloc (.cells #[.bool r.1.1, .slice Ar r.1.2.length cr, .slice Br r.2.length dr] 36)) #[.string ⟨#[]⟩, .bool false, .slice none 0 0] 32).below (below_al (Below.refl _ _) (.cells #[.bool false, .slice none 0 0, .slice none 0 0] 36))
  rw [show (w.alloc (.cells #[.bool r.1.1, .slice Ar r.1.2.length cr, .slice Br r.2.length dr] 36)).heap.size = w.heap.size + 1 by simp] at ko
  have kp := (box_new ((w.alloc (.cells #[.bool r.1.1, .slice Ar r.1.2.length cr, .slice Br r.2.length dr] 36)).alloc (.cells #[.string ⟨#[]⟩, .bool false, .slice none 0 0] 32)) #[.bool false, .slice none 0 0, .slice none 0 0] 36)
  rw [show ((w.alloc (.cells #[.bool r.1.1, .slice Ar r.1.2.length cr, .slice Br r.2.length dr] 36)).alloc (.cells #[.string ⟨#[]⟩, .bool false, .slice none 0 0] 32)).heap.size = w.heap.size + 1 + 1 by simp] at kp
  have HKO := Lib.hid (ko.lt (w.heap.size + 1) (by simp))
  have HKP := Lib.hid (kp.lt (w.heap.size + 1 + 1) (by simp))
  have hzX : (restS r m).2.length ≤ 1048576 := restS_len r m
  obtain ⟨X, hX⟩ : ∃ X, restS r m = X := ⟨_, rfl⟩
  obtain ⟨Y, hY⟩ : ∃ Y, restQ r m = Y := ⟨_, rfl⟩
  obtain ⟨rb, hrb⟩ : ∃ b, restB r m = b := ⟨_, rfl⟩
  obtain ⟨⟨Q, qb⟩, hQ⟩ : ∃ Q, makeM cu X = Q := ⟨_, rfl⟩
  have EX := Lib.hid hX
  have EY := Lib.hid hY
  have EQ := Lib.hid hQ
  have EG := Lib.hid (show rb = true → qb = true → rmM cu r m = Q ∧ rmQ cu r m = Y ∧ rmB cu r m = true from fun h1 h2 => by have h := rm_good (cu := cu) (r := r) (m := m) (by rw [hrb]; exact h1) (by rw [hX, hQ]; exact h2); rw [hX, hQ, hY] at h; exact h)
  have EB := Lib.hid (show rb = false ∨ qb = false → rmM cu r m = zeroM ∧ rmQ cu r m = zeroQ ∧ rmB cu r m = false from fun h => rm_bad (by rw [hrb, hX, hQ]; exact h))
  have ER := Lib.hid hrb
  rw [hX] at hzX
  clear hX hY hrb hQ
  generalize rmM cu r m = RM at *
  generalize rmQ cu r m = RQ at *
  generalize rmB cu r m = RB at *
  go_enter Tryz.func132, Tryz.ntmps132
  have kr_c0 := kr.here.cell 0 _ rfl
  have kr_c1 := kr.here.cell 1 _ rfl
  have kr_c2 := kr.here.cell 2 _ rfl
  go_wp2_with fail
  clear kr_c0 kr_c1 kr_c2
  refine ((specRatRest_any _ r m _ hz (OQr.out _ bb0)).mono fun _ _ h => postSQb_isM EX.out EY.out ER.out h).mono ?_
  rintro e w1 ⟨ux, uy, Sx, Sy, rfl, ox, oy, hap, lx, ly, b1⟩
  obtain ⟨Ax, cx, rfl⟩ := ownS_form ox.here
  obtain ⟨Ay, cy, By, dy, rfl⟩ := ownQ_form oy.here
  have bb1 := Below.next bb0 b1
  replace kr := kr.below b1
  replace ko := ko.below b1
  replace kp := kp.below b1
  have kx := box_new (w1) #[.bool X.1, .slice Ax X.2.length cx] 30
  have alx := below_al (Below.refl (w1).heap.size (w1)) (.cells #[.bool X.1, .slice Ax X.2.length cx] 30)
  have bbx := Below.next bb1 alx
  replace kr := kr.below alx
  replace ko := ko.below alx
  replace kp := kp.below alx
  replace ox := ox.below alx
  replace oy := oy.below alx
  have ky := box_new ((w1.alloc (.cells #[.bool X.1, .slice Ax X.2.length cx] 30))) #[.bool Y.1.1, .slice Ay Y.1.2.length cy, .slice By Y.2.length dy] 36
  have aly := below_al (Below.refl ((w1.alloc (.cells #[.bool X.1, .slice Ax X.2.length cx] 30))).heap.size ((w1.alloc (.cells #[.bool X.1, .slice Ax X.2.length cx] 30)))) (.cells #[.bool Y.1.1, .slice Ay Y.1.2.length cy, .slice By Y.2.length dy] 36)
  have bby := Below.next bbx aly
  replace kr := kr.below aly
  replace ko := ko.below aly
  replace kp := kp.below aly
  replace ox := ox.below aly
  replace oy := oy.below aly
  replace kx := kx.below aly
  have kx_c0 := kx.here.cell 0 _ rfl
  have kx_c1 := kx.here.cell 1 _ rfl
  go_wp2_with fail
  clear kx_c0 kx_c1
  refine ((l09Make_any cu _ X _ _ hzX ox).mono fun _ _ h => keptM_eq EQ.out h).mono ?_
  rintro e w2 ⟨um, Sm, rfl, om, sm, b2⟩
  obtain ⟨Am, cm, rfl⟩ := ownM_form om.here
  have bb2 := Below.next bby b2
  replace kr := kr.below b2
  replace ko := ko.below b2
  replace kp := kp.below b2
  replace ox := ox.below b2
  replace oy := oy.below b2
  replace kx := kx.below b2
  replace ky := ky.below b2
  have km := box_new (w2) #[.string Q.1, .bool Q.2.1, .slice Am Q.2.2.length cm] 32
  have alm := below_al (Below.refl (w2).heap.size (w2)) (.cells #[.string Q.1, .bool Q.2.1, .slice Am Q.2.2.length cm] 32)
  have bbm := Below.next bb2 alm
  replace kr := kr.below alm
  replace ko := ko.below alm
  replace kp := kp.below alm
  replace ox := ox.below alm
  replace oy := oy.below alm
  replace kx := kx.below alm
  replace ky := ky.below alm
  replace om := om.below alm
  cases rb with
  | false =>
    have HV := Lib.hid (EB.out (.inl rfl))
    have cko0 := ko.here.cell 0 _ rfl
    have fko0 := Lib.frozen_of_heap ko.here 0
    have cko1 := ko.here.cell 1 _ rfl
    have fko1 := Lib.frozen_of_heap ko.here 1
    have cko2 := ko.here.cell 2 _ rfl
    have fko2 := Lib.frozen_of_heap ko.here 2
    have ckp0 := kp.here.cell 0 _ rfl
    have fkp0 := Lib.frozen_of_heap kp.here 0
    have ckp1 := kp.here.cell 1 _ rfl
    have fkp1 := Lib.frozen_of_heap kp.here 1
    have ckp2 := kp.here.cell 2 _ rfl
    have fkp2 := Lib.frozen_of_heap kp.here 2
    clear ox oy om ko kp kr kx ky km lx ly sm hap
    go_wp2
    refine bodyPost_ret (v := .tuple #[.agg #[.string ⟨#[]⟩, .bool false, .slice none 0 0], .agg #[.bool false, .slice none 0 0, .slice none 0 0], .bool false]) (by simp [results, Tryz.results132, go_sem, cko0, cko1, cko2, ckp0, ckp1, ckp2]) rfl ?_
    rw [HV.out.1, HV.out.2.1, HV.out.2.2]
    have hle1 : w.heap.size ≤ w.heap.size + 1 := by omega
    have hle2 : w.heap.size ≤ w.heap.size + 1 + 1 := by omega
    first | with_reducible exact newMQb_zero (below_set3 (below_set3 bbm hle1) hle2) | with_reducible exact newMQb_zero bbm
  | true =>
    cases qb with
    | false =>
      have HV := Lib.hid (EB.out (.inr rfl))
      have cko0 := ko.here.cell 0 _ rfl
      have fko0 := Lib.frozen_of_heap ko.here 0
      have cko1 := ko.here.cell 1 _ rfl
      have fko1 := Lib.frozen_of_heap ko.here 1
      have cko2 := ko.here.cell 2 _ rfl
      have fko2 := Lib.frozen_of_heap ko.here 2
      have ckp0 := kp.here.cell 0 _ rfl
      have fkp0 := Lib.frozen_of_heap kp.here 0
      have ckp1 := kp.here.cell 1 _ rfl
      have fkp1 := Lib.frozen_of_heap kp.here 1
      have ckp2 := kp.here.cell 2 _ rfl
      have fkp2 := Lib.frozen_of_heap kp.here 2
      clear ox oy om ko kp kr kx ky km lx ly sm hap
      go_wp2
      refine bodyPost_ret (v := .tuple #[.agg #[.string ⟨#[]⟩, .bool false, .slice none 0 0], .agg #[.bool false, .slice none 0 0, .slice none 0 0], .bool false]) (by simp [results, Tryz.results132, go_sem, cko0, cko1, cko2, ckp0, ckp1, ckp2]) rfl ?_
      rw [HV.out.1, HV.out.2.1, HV.out.2.2]
      have hle1 : w.heap.size ≤ w.heap.size + 1 := by omega
      have hle2 : w.heap.size ≤ w.heap.size + 1 + 1 := by omega
      first | with_reducible exact newMQb_zero (below_set3 (below_set3 bbm hle1) hle2) | with_reducible exact newMQb_zero bbm
    | true =>
      have HV := Lib.hid (EG.out rfl rfl)
      have z1 := b1.size
      have z2 := b2.size
      have zx := alx.size
      have zy := aly.size
      have zm := alm.size
      have e1 : (w1.alloc (.cells #[.bool X.1, .slice Ax X.2.length cx] 30)).heap.size = w1.heap.size + 1 := by simp
      have e2 : ((w1.alloc (.cells #[.bool X.1, .slice Ax X.2.length cx] 30)).alloc (.cells #[.bool Y.1.1, .slice Ay Y.1.2.length cy, .slice By Y.2.length dy] 36)).heap.size = w1.heap.size + 1 + 1 := by simp
      have hko := HKO.out
      have hkp := HKP.out
      have HW := Lib.hid (newMQb_at (b := true) (r := w.heap.size + 1) (p := w.heap.size + 1 + 1) om oy (B := w.heap.size + 3) (C := w.heap.size + 3) (fun i hi => ⟨by have := (lx i (sm i hi)).1; simp at this; omega, om.lt i hi⟩) (fun i hi => ⟨by have := (ly i hi).1; simp at this; omega, oy.lt i hi⟩) (fun i hi => hap i (sm i hi)) (by omega) (by omega) (by omega) (by omega) (by omega) bbm)
      have hw1 : w.heap.size + 3 ≤ w1.heap.size := by simp at z1; omega
      have hw2 : w1.heap.size + 2 ≤ w2.heap.size := by rw [e2] at z2; omega
      have hn_w1_1 : ¬ w1.heap.size = w.heap.size + 1 := by omega
      have hn_w1_1' : ¬ w.heap.size + 1 = w1.heap.size := by omega
      have hn_w1_2 : ¬ w1.heap.size = w.heap.size + 1 + 1 := by omega
      have hn_w1_2' : ¬ w.heap.size + 1 + 1 = w1.heap.size := by omega
      have hn_w2_1 : ¬ w2.heap.size = w.heap.size + 1 := by omega
      have hn_w2_1' : ¬ w.heap.size + 1 = w2.heap.size := by omega
      have hn_w2_2 : ¬ w2.heap.size = w.heap.size + 1 + 1 := by omega
      have hn_w2_2' : ¬ w.heap.size + 1 + 1 = w2.heap.size := by omega
      have hn_y_1 : ¬ w1.heap.size + 1 = w.heap.size + 1 := by omega
      have hn_y_1' : ¬ w.heap.size + 1 = w1.heap.size + 1 := by omega
      have hn_y_2 : ¬ w1.heap.size + 1 = w.heap.size + 1 + 1 := by omega
      have hn_y_2' : ¬ w.heap.size + 1 + 1 = w1.heap.size + 1 := by omega
      rw [e1] at ky
      have cko0 := ko.here.cell 0 _ rfl
      have fko0 := Lib.frozen_of_heap ko.here 0
      have cko1 := ko.here.cell 1 _ rfl
      have fko1 := Lib.frozen_of_heap ko.here 1
      have cko2 := ko.here.cell 2 _ rfl
      have fko2 := Lib.frozen_of_heap ko.here 2
      have ckp0 := kp.here.cell 0 _ rfl
      have fkp0 := Lib.frozen_of_heap kp.here 0
      have ckp1 := kp.here.cell 1 _ rfl
      have fkp1 := Lib.frozen_of_heap kp.here 1
      have ckp2 := kp.here.cell 2 _ rfl
      have fkp2 := Lib.frozen_of_heap kp.here 2
      have ckm0 := km.here.cell 0 _ rfl
      have ckm1 := km.here.cell 1 _ rfl
      have ckm2 := km.here.cell 2 _ rfl
      have cky0 := ky.here.cell 0 _ rfl
      have cky1 := ky.here.cell 1 _ rfl
      have cky2 := ky.here.cell 2 _ rfl
      clear ox oy om ko kp kr kx ky km lx ly sm hap z1 z2 zx zy zm e1 e2 hko hkp hw1 hw2
      go_wp2_with fail
      go_region
      all_goals (go_wp2; refine bodyPost_ret (v := .tuple #[.agg #[.string Q.1, .bool Q.2.1, .slice Am Q.2.2.length cm], .agg #[.bool Y.1.1, .slice Ay Y.1.2.length cy, .slice By Y.2.length dy], .bool true]) (by simp [results, Tryz.results132, go_sem, cko0, cko1, cko2, ckp0, ckp1, ckp2]) rfl ?_)
      all_goals (rw [HV.out.1, HV.out.2.1, HV.out.2.2]; refine HW.out _ ?_; repeat (first | with_reducible exact Chg.refl _ _ | with_reducible refine Chg.drew1 ?_ | with_reducible refine Chg.setCell ?_ (by simp) _))
end Go.Proofs.YtehkknphcflofaaGreatDoor

namespace Go.Proofs.YtehkknphcflofaaGreatDoor
open Go.RowKit

set_option maxHeartbeats 4000000 in
set_option maxRecDepth 100000 in
theorem implRatRest_any (vr : Value) (r : QI) (m : Int) (w : World) (hz : szQ r ≤ 1048576) (hr : OwnQ vr r w) (hsen : Sen w) :
    Calls Tryz.prog 178 #[vr, .int .i64 m] w (PostSQb (restS r m) (restQ r m) (restB r m) w) := by
  have HS := Lib.hid hsen
  clear hsen
  have Hr := Lib.hid hr
  obtain ⟨Ar, cr, Br, dr, rfl⟩ := ownQ_form hr
  have OQr := Lib.hid (show ∀ W, Below w.heap.size w W → OwnQ (.agg #[.bool r.1.1, .slice Ar r.1.2.length cr, .slice Br r.2.length dr]) r W from fun W hb => OwnQ.below Hr.out hb)
  have OUr := Lib.hid (show ∀ W, Below w.heap.size w W → OwnI (.slice Ar r.1.2.length cr) r.1.2 W from fun W hb => (ownQ_open (OQr.out W hb)).2.1)
  have ODr := Lib.hid (show ∀ W, Below w.heap.size w W → OwnI (.slice Br r.2.length dr) r.2 W from fun W hb => (ownQ_open (OQr.out W hb)).2.2.1)
  have OSr := Lib.hid (show ∀ W, Below w.heap.size w W → OwnS (.agg #[.bool r.1.1, .slice Ar r.1.2.length cr]) r.1 W from fun W hb => OwnS.mk (OUr.out W hb))
  clear hr
  have bb0 : Below w.heap.size w (((w.alloc (.cells #[.bool r.1.1, .slice Ar r.1.2.length cr, .slice Br r.2.length dr] 36)).alloc (.cells #[.bool false, .slice none 0 0] 30)).alloc (.cells #[.bool false, .slice none 0 0, .slice none 0 0] 36)) := below_al (below_al (below_al (Below.refl _ _) _) _) _
  have kr := (box_new w #[.bool r.1.1, .slice Ar r.1.2.length cr, .slice Br r.2.length dr] 36).below (below_al (below_al (Below.refl _ _) (.cells #[.bool false, .slice none 0 0] 30)) (.cells #[.bool false, .slice none 0 0, .slice none 0 0] 36))
  have ko := (box_new (w.alloc (.cells #[.bool r.1.1, .slice Ar r.1.2.length cr, .slice Br r.2.length dr] 36)) #[.bool false, .slice none 0 0] 30).below (below_al (Below.refl _ _) (.cells #[.bool false, .slice none 0 0, .slice none 0 0] 36))
  rw [show (w.alloc (.cells #[.bool r.1.1, .slice Ar r.1.2.length cr, .slice Br r.2.length dr] 36)).heap.size = w.heap.size + 1 by simp] at ko
  have kp := (box_new ((w.alloc (.cells #[.bool r.1.1, .slice Ar r.1.2.length cr, .slice Br r.2.length dr] 36)).alloc (.cells #[.bool false, .slice none 0 0] 30)) #[.bool false, .slice none 0 0, .slice none 0 0] 36)
  rw [show ((w.alloc (.cells #[.bool r.1.1, .slice Ar r.1.2.length cr, .slice Br r.2.length dr] 36)).alloc (.cells #[.bool false, .slice none 0 0] 30)).heap.size = w.heap.size + 1 + 1 by simp] at kp
  have HKO := Lib.hid (ko.lt (w.heap.size + 1) (by simp))
  have HKP := Lib.hid (kp.lt (w.heap.size + 1 + 1) (by simp))
  obtain ⟨X, hX⟩ : ∃ X, (roundR r m).1 = X := ⟨_, rfl⟩
  obtain ⟨Y, hY⟩ : ∃ Y, (makeQ X (ofZ 1)).1 = Y := ⟨_, rfl⟩
  obtain ⟨Z, hZ⟩ : ∃ Z, (subQ r Y).1 = Z := ⟨_, rfl⟩
  have zX : szS X ≤ 1048576 := by rw [← hX]; exact roundR_sz r m
  have zY : szQ Y ≤ 1048576 := by rw [← hY]; exact makeQ_szQ _ _
  by_cases hb : okQ r = true ∧ modeB m = true
  · obtain ⟨r1, r2, r3, r4⟩ := rest_all hb.1 hb.2
    have ER := Lib.hid (show roundR r m = (X, true) by rw [r1, ← hX, r1])
    have rp := rest_parts hb.1 m
    have e0 : roundS r m = X := by rw [← hX, r1]
    rw [e0] at rp r3 r4
    rw [hY] at rp r4
    rw [hZ] at r4
    have EM := Lib.hid (show makeQ X (ofZ 1) = (Y, true) by rw [← hY, ← rp.1])
    have ES := Lib.hid (show subQ r Y = (Z, true) by rw [← hZ, ← rp.2])
    have HV := Lib.hid (show restS r m = X ∧ restQ r m = Z ∧ restB r m = true from ⟨r3, r4, r2⟩)
    clear rp e0
    clear hX hY hZ r1 r2 r3 r4 hb
    go_enter Tryz.func178, Tryz.ntmps178
    have kr_c0 := kr.here.cell 0 _ rfl
    have kr_c1 := kr.here.cell 1 _ rfl
    have kr_c2 := kr.here.cell 2 _ rfl
    go_wp2_with fail
    clear kr_c0 kr_c1 kr_c2
    refine ((implRatRound_any _ r m _ hz (OQr.out _ bb0) (HS.out.below bb0)).mono fun _ _ h => postSb_is ER.out h).mono ?_
    rintro e w1 ⟨ux, Sx, rfl, ox, lx, b1⟩
    obtain ⟨Ax, cx, rfl⟩ := ownS_form ox.here
    have bb1 := Below.next bb0 b1
    replace kr := kr.below b1
    replace ko := ko.below b1
    replace kp := kp.below b1
    have kx := box_new (w1) #[.bool X.1, .slice Ax X.2.length cx] 30
    have alx := below_al (Below.refl (w1).heap.size (w1)) (.cells #[.bool X.1, .slice Ax X.2.length cx] 30)
    have bbx := Below.next bb1 alx
    replace kr := kr.below alx
    replace ko := ko.below alx
    replace kp := kp.below alx
    replace ox := ox.below alx
    have kx_c0 := kx.here.cell 0 _ rfl
    have kx_c1 := kx.here.cell 1 _ rfl
    go_wp2_with fail
    clear kx_c0 kx_c1
    refine ((implRatInt_any _ X _ zX ox.here (HS.out.below bbx)).mono fun _ _ h => postQb_is EM.out h).mono ?_
    rintro e w2 ⟨uy, Sy, rfl, oy, ly, b2⟩
    obtain ⟨Ay, cy, By, dy, rfl⟩ := ownQ_form oy.here
    have bb2 := Below.next bbx b2
    replace kr := kr.below b2
    replace ko := ko.below b2
    replace kp := kp.below b2
    replace ox := ox.below b2
    replace kx := kx.below b2
    have ky := box_new (w2) #[.bool Y.1.1, .slice Ay Y.1.2.length cy, .slice By Y.2.length dy] 36
    have aly := below_al (Below.refl (w2).heap.size (w2)) (.cells #[.bool Y.1.1, .slice Ay Y.1.2.length cy, .slice By Y.2.length dy] 36)
    have bby := Below.next bb2 aly
    replace kr := kr.below aly
    replace ko := ko.below aly
    replace kp := kp.below aly
    replace ox := ox.below aly
    replace kx := kx.below aly
    replace oy := oy.below aly
    have kr_c0 := kr.here.cell 0 _ rfl
    have kr_c1 := kr.here.cell 1 _ rfl
    have kr_c2 := kr.here.cell 2 _ rfl
    have ky_c0 := ky.here.cell 0 _ rfl
    have ky_c1 := ky.here.cell 1 _ rfl
    have ky_c2 := ky.here.cell 2 _ rfl
    go_wp2_with fail
    clear kr_c0 kr_c1 kr_c2 ky_c0 ky_c1 ky_c2
    refine ((implRatSub_any _ _ r Y _ hz zY (OQr.out _ bby) oy.here (HS.out.below bby)).mono fun _ _ h => postQb_is ES.out h).mono ?_
    rintro e w3 ⟨uz, Sz, rfl, oz, lz, b3⟩
    obtain ⟨Az, cz, Bz, dz, rfl⟩ := ownQ_form oz.here
    have bb3 := Below.next bby b3
    replace kr := kr.below b3
    replace ko := ko.below b3
    replace kp := kp.below b3
    replace ox := ox.below b3
    replace kx := kx.below b3
    replace oy := oy.below b3
    replace ky := ky.below b3
    have kz := box_new (w3) #[.bool Z.1.1, .slice Az Z.1.2.length cz, .slice Bz Z.2.length dz] 36
    have alz := below_al (Below.refl (w3).heap.size (w3)) (.cells #[.bool Z.1.1, .slice Az Z.1.2.length cz, .slice Bz Z.2.length dz] 36)
    have bbz := Below.next bb3 alz
    replace kr := kr.below alz
    replace ko := ko.below alz
    replace kp := kp.below alz
    replace ox := ox.below alz
    replace kx := kx.below alz
    replace oy := oy.below alz
    replace ky := ky.below alz
    replace oz := oz.below alz
    have z1 := b1.size
    have z2 := b2.size
    have z3 := b3.size
    have zx := alx.size
    have zy := aly.size
    have zz := alz.size
    have HKX := Lib.hid (kx.lt _ (List.mem_singleton.2 rfl))
    have HW := Lib.hid (newSQb_at (b := true) (r := w.heap.size + 1) (p := w.heap.size + 1 + 1) ox oz (within_up lx (Nat.le_refl _) (Nat.le_trans zx (Nat.le_trans z2 (Nat.le_trans zy (Nat.le_trans z3 zz))))) (within_up lz (Nat.le_refl _) zz) (Within.apart lx lz (.inl (Nat.le_trans zx (Nat.le_trans z2 zy)))) HKP.out (Nat.lt_of_lt_of_le HKP.out (Nat.le_trans z1 (Nat.le_trans zx (Nat.le_trans z2 zy)))) (by omega) (by omega) (by omega) bbz)
    have hs1 := HKP.out
    have hs2 := Nat.lt_of_lt_of_le HKP.out z1
    have hs3 := Nat.lt_of_lt_of_le hs2 (Nat.le_trans zx (Nat.le_trans z2 (Nat.le_trans zy z3)))
    have hn_w1_1 : ¬ w1.heap.size = w.heap.size + 1 := by omega
    have hn_w1_1' : ¬ w.heap.size + 1 = w1.heap.size := by omega
    have hn_w1_2 : ¬ w1.heap.size = w.heap.size + 1 + 1 := by omega
    have hn_w1_2' : ¬ w.heap.size + 1 + 1 = w1.heap.size := by omega
    have hn_w3_1 : ¬ w3.heap.size = w.heap.size + 1 := by omega
    have hn_w3_1' : ¬ w.heap.size + 1 = w3.heap.size := by omega
    have hn_w3_2 : ¬ w3.heap.size = w.heap.size + 1 + 1 := by omega
    have hn_w3_2' : ¬ w.heap.size + 1 + 1 = w3.heap.size := by omega
    clear hs1 hs2 hs3
    have cko0 := ko.here.cell 0 _ rfl
    have cko1 := ko.here.cell 1 _ rfl
    have fko0 := Lib.frozen_of_heap ko.here 0
    have fko1 := Lib.frozen_of_heap ko.here 1
    have ckp0 := kp.here.cell 0 _ rfl
    have ckp1 := kp.here.cell 1 _ rfl
    have ckp2 := kp.here.cell 2 _ rfl
    have fkp0 := Lib.frozen_of_heap kp.here 0
    have fkp1 := Lib.frozen_of_heap kp.here 1
    have fkp2 := Lib.frozen_of_heap kp.here 2
    have ckx0 := kx.here.cell 0 _ rfl
    have ckx1 := kx.here.cell 1 _ rfl
    have ckz0 := kz.here.cell 0 _ rfl
    have ckz1 := kz.here.cell 1 _ rfl
    have ckz2 := kz.here.cell 2 _ rfl
    clear ox oy oz ko kp kr kx ky kz z1 z2 z3 zx zy zz lx ly lz
    go_wp2_with fail
    go_region
    all_goals (go_wp2; refine bodyPost_ret (v := .tuple #[.agg #[.bool X.1, .slice Ax X.2.length cx], .agg #[.bool Z.1.1, .slice Az Z.1.2.length cz, .slice Bz Z.2.length dz], .bool true]) (by simp [results, Tryz.results178, go_sem, cko0, cko1, ckp0, ckp1, ckp2]) rfl ?_)
    all_goals (rw [HV.out.1, HV.out.2.1, HV.out.2.2]; refine HW.out _ ?_; repeat (first | exact Chg.refl _ _ | refine Chg.setCell ?_ (by simp) _ | refine Chg.drew1 ?_))
  · obtain ⟨r1, r2, r3, r4⟩ := rest_none hb
    have ER := Lib.hid (show roundR r m = (X, false) by rw [r1, ← hX, r1])
    have HV := Lib.hid (show restS r m = zeroS ∧ restQ r m = zeroQ ∧ restB r m = false from ⟨r3, r4, r2⟩)
    obtain ⟨by_, hby⟩ : ∃ b, (makeQ X (ofZ 1)).2 = b := ⟨_, rfl⟩
    obtain ⟨bz_, hbz⟩ : ∃ b, (subQ r Y).2 = b := ⟨_, rfl⟩
    have EM := Lib.hid (show makeQ X (ofZ 1) = (Y, by_) by rw [← hY, ← hby])
    have ES := Lib.hid (show subQ r Y = (Z, bz_) by rw [← hZ, ← hbz])
    clear hby hbz
    clear hX hY hZ r1 r2 r3 r4 hb
    go_enter Tryz.func178, Tryz.ntmps178
    have kr_c0 := kr.here.cell 0 _ rfl
    have kr_c1 := kr.here.cell 1 _ rfl
    have kr_c2 := kr.here.cell 2 _ rfl
    go_wp2_with fail
    clear kr_c0 kr_c1 kr_c2
    refine ((implRatRound_any _ r m _ hz (OQr.out _ bb0) (HS.out.below bb0)).mono fun _ _ h => postSb_is ER.out h).mono ?_
    rintro e w1 ⟨ux, Sx, rfl, ox, lx, b1⟩
    obtain ⟨Ax, cx, rfl⟩ := ownS_form ox.here
    have bb1 := Below.next bb0 b1
    replace kr := kr.below b1
    replace ko := ko.below b1
    replace kp := kp.below b1
    have kx := box_new (w1) #[.bool X.1, .slice Ax X.2.length cx] 30
    have alx := below_al (Below.refl (w1).heap.size (w1)) (.cells #[.bool X.1, .slice Ax X.2.length cx] 30)
    have bbx := Below.next bb1 alx
    replace kr := kr.below alx
    replace ko := ko.below alx
    replace kp := kp.below alx
    replace ox := ox.below alx
    have cko0 := ko.here.cell 0 _ rfl
    have fko0 := Lib.frozen_of_heap ko.here 0
    have cko1 := ko.here.cell 1 _ rfl
    have fko1 := Lib.frozen_of_heap ko.here 1
    have ckp0 := kp.here.cell 0 _ rfl
    have fkp0 := Lib.frozen_of_heap kp.here 0
    have ckp1 := kp.here.cell 1 _ rfl
    have fkp1 := Lib.frozen_of_heap kp.here 1
    have ckp2 := kp.here.cell 2 _ rfl
    have fkp2 := Lib.frozen_of_heap kp.here 2
    go_wp2
    refine bodyPost_ret (v := .tuple #[.agg #[.bool false, .slice none 0 0], .agg #[.bool false, .slice none 0 0, .slice none 0 0], .bool false]) (by simp [results, Tryz.results178, go_sem, cko0, cko1, ckp0, ckp1, ckp2]) rfl ?_
    rw [HV.out.1, HV.out.2.1, HV.out.2.2]
    first | exact newSQb_zero bbx | exact newSQb_zero (below_set3 (below_set2 bbx (by omega)) (by omega))
end Go.Proofs.YtehkknphcflofaaGreatDoor
