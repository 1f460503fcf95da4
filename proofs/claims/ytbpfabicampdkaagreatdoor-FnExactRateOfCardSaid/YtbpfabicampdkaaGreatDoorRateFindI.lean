/-
  Chapter 11 of package impl: unitRat, storedRate.
-/
import Derived.Test.YtbpfabicampdkaaGreatDoorRateFacts
import Derived.Test.YtbpfabicampdkaaGreatDoorJB10
namespace Go.Proofs.YtbpfabicampdkaaGreatDoor
open Go.RowKit

/-- what a call answers: a new fraction and an int -/
def PostQn (R0 : QI) (R1 : Int) (w : World) (e : Ending) (w' : World) : Prop :=
  ∃ (v : Value) (S : List Nat), e = .returned (.tuple #[v, .int .i64 R1]) ∧ At S (OwnQ v R0) w' ∧ Within S w.heap.size w'.heap.size ∧ Below w.heap.size w w'
theorem postQn_is {q : QI × Int} {X : QI} {b : Int} (e : q = (X, b)) {w w' : World} {n : Ending} (h : PostQn q.1 q.2 w n w') : PostQn X b w n w' := by rw [e] at h; exact h
theorem postQb_isR {q : QI × Bool} {X : QI} {b : Bool} (e : q = (X, b)) {w w' : World} {n : Ending} (h : PostQb q.1 q.2 w n w') : PostQb X b w n w' := by rw [e] at h; exact h
theorem newV_isQ {X Y : QI} (e : X = Y) {w w' : World} {n : Ending} (h : NewV (fun v => OwnQ v X) w n w') : NewV (fun v => OwnQ v Y) w n w' := by rw [e] at h; exact h
theorem newQn_chg {R0 : QI} {R1 : Int} {S T : List Nat} {v : Value} {w W : World} (o : At S (OwnQ v R0) W) (hd : ∀ i ∈ S, i ∉ T) (hT : ∀ i ∈ T, w.heap.size ≤ i) (l : ∀ i ∈ S, w.heap.size ≤ i) (hW : Below w.heap.size w W) :
    ∀ W', Chg T W W' → PostQn R0 R1 w (.returned (.tuple #[v, .int .i64 R1])) W' :=
  fun _ hc => ⟨v, S, rfl, o.chg hc hd, fun i hi => ⟨l i hi, Nat.lt_of_lt_of_le (o.lt i hi) hc.size⟩, below_chg hW hc hW.size hT⟩
theorem newQb_chg {R0 : QI} {R1 : Bool} {S T : List Nat} {v : Value} {w W : World} (o : At S (OwnQ v R0) W) (hd : ∀ i ∈ S, i ∉ T) (hT : ∀ i ∈ T, w.heap.size ≤ i) (l : ∀ i ∈ S, w.heap.size ≤ i) (hW : Below w.heap.size w W) :
    ∀ W', Chg T W W' → PostQb R0 R1 w (.returned (.tuple #[v, .bool R1])) W' :=
  fun _ hc => ⟨v, S, rfl, o.chg hc hd, fun i hi => ⟨l i hi, Nat.lt_of_lt_of_le (o.lt i hi) hc.size⟩, below_chg hW hc hW.size hT⟩
theorem newVQ_chg {R0 : QI} {S T : List Nat} {v : Value} {w W : World} (o : At S (OwnQ v R0) W) (hd : ∀ i ∈ S, i ∉ T) (hT : ∀ i ∈ T, w.heap.size ≤ i) (l : ∀ i ∈ S, w.heap.size ≤ i) (hW : Below w.heap.size w W) :
    ∀ W', Chg T W W' → NewV (fun u => OwnQ u R0) w (.returned v) W' :=
  fun _ hc => ⟨v, S, rfl, o.chg hc hd, fun i hi => ⟨l i hi, Nat.lt_of_lt_of_le (o.lt i hi) hc.size⟩, below_chg hW hc hW.size hT⟩
theorem newQn_zero {T : List Nat} {w W : World} (hT : ∀ i ∈ T, w.heap.size ≤ i) (hW : Below w.heap.size w W) : ∀ W', Chg T W W' → PostQn zeroQ 0 w (.returned (.tuple #[.agg #[.bool false, .slice none 0 0, .slice none 0 0], .int .i64 0])) W' :=
  fun _ hc => ⟨_, [], rfl, ⟨ownQ_zero _, (fun g hg => by cases hg), fun w' _ => ownQ_zero _⟩, (fun g hg => by cases hg), below_chg hW hc hW.size hT⟩
theorem storeT_sz (l : List EI) (a b : ByteArray) : szQ (storeT l a b).1 ≤ 1048576 := by
  unfold storeT
  split
  · exact zeroQ_sz
  · exact stepT_sz _ _ _
theorem storeT_zero {l : List EI} {a b : ByteArray} : (storeT l a b).2 = 0 ↔ legT l a b = 0 := by
  unfold storeT
  split
  · rename_i h
    exact ⟨fun _ => h, fun _ => rfl⟩
  · exact Iff.rfl
theorem storeT_yes {l : List EI} {a b : ByteArray} (h : ¬ legT l a b = 0) : storeT l a b = (stepT l a b, legT l a b) := by unfold storeT; rw [if_neg h]
theorem pivT_of {t : TI} {a b : ByteArray} {X Y : QI} {x y : Int} (h1 : storeT t.2 a t.1 = (X, x)) (h2 : storeT t.2 t.1 b = (Y, y)) : pivT t a b = if x = 0 ∨ y = 0 then (zeroQ, 0) else ((mulQ X Y).1, 4) := by
  have e1 : (storeT t.2 a t.1).2 = x := by rw [h1]
  have e2 : (storeT t.2 t.1 b).2 = y := by rw [h2]
  have q1 : x = 0 ↔ legT t.2 a t.1 = 0 := by rw [← e1]; exact storeT_zero
  have q2 : y = 0 ↔ legT t.2 t.1 b = 0 := by rw [← e2]; exact storeT_zero
  unfold pivT
  by_cases h : x = 0 ∨ y = 0
  · rw [if_pos h, if_pos (h.imp q1.1 q2.1)]
  · rw [if_neg h, if_neg (fun hh => h (hh.imp q1.2 q2.2))]
    rw [storeT_yes (fun e => h (.inl (q1.2 e)))] at h1
    rw [storeT_yes (fun e => h (.inr (q2.2 e)))] at h2
    have e3 : stepT t.2 a t.1 = X := congrArg Prod.fst h1
    have e4 : stepT t.2 t.1 b = Y := congrArg Prod.fst h2
    rw [e3, e4]
theorem findT_of {t : TI} {a b : ByteArray} {X : QI} {x : Int} (h : okT t = true ∧ knownC a = true ∧ knownC b = true) (hab : ¬ a = b) (h1 : storeT t.2 a b = (X, x)) : findT t a b = if x = 0 then pivT t a b else (X, x) := by
  have e1 : (storeT t.2 a b).2 = x := by rw [h1]
  have q1 : x = 0 ↔ legT t.2 a b = 0 := by rw [← e1]; exact storeT_zero
  unfold findT
  rw [if_pos h, if_neg hab]
  by_cases hx : x = 0
  · rw [if_pos hx, if_pos (q1.1 hx)]
  · rw [if_neg hx, if_neg (fun hh => hx (q1.2 hh)), ← storeT_yes (fun hh => hx (q1.2 hh)), h1]
theorem store_hit {l : List EI} {a b : ByteArray} {n : Nat} {x : EI} (h0 : 0 ≤ posE l a b) (h2 : l[n]? = some x) (h3 : atE l a b = n) : storeT l a b = (ratD x.2.2, 2) := by
  have e : legT l a b = 2 := by unfold legT; rw [if_pos h0]
  rw [storeT_yes (by omega), e]
  unfold stepT
  rw [if_pos h0, h3, h2]
theorem store_inv {l : List EI} {a b : ByteArray} {n : Nat} {x : EI} (hn : ¬ 0 ≤ posE l a b) (h0 : 0 ≤ posE l b a) (h2 : l[n]? = some x) (h3 : atE l b a = n) : storeT l a b = ((divQ unitQ.1 (ratD x.2.2)).1, 3) := by
  have e : legT l a b = 3 := by unfold legT; rw [if_neg hn, if_pos h0]
  rw [storeT_yes (by omega), e]
  unfold stepT
  rw [if_neg hn, h3, h2]
theorem store_none {l : List EI} {a b : ByteArray} (hn : ¬ 0 ≤ posE l a b) (h0 : ¬ 0 ≤ posE l b a) : storeT l a b = (zeroQ, 0) := by
  have e : legT l a b = 0 := by unfold legT; rw [if_neg hn, if_neg h0]
  unfold storeT
  rw [if_pos e]
theorem unitQ_sz : szQ unitQ.1 ≤ 1048576 := by rw [unit_low]; exact lowQ_sz _ _ _
set_option maxHeartbeats 2000000 in
set_option maxRecDepth 100000 in
theorem unitRat_any (w : World) (hsen : Sen w) :
    Calls Tryz.prog 102 #[] w (NewV (fun v => OwnQ v unitQ.1) w) := by
  have HS := Lib.hid hsen
  clear hsen
  have bb0 : Below w.heap.size w (w.alloc (.cells #[.bool false, .slice none 0 0, .slice none 0 0] 32)) := below_al (Below.refl _ _) _
  have ko := (box_new w #[.bool false, .slice none 0 0, .slice none 0 0] 32)
  have HKO := Lib.hid (ko.lt w.heap.size (by simp))
  go_enter Tryz.func102, Tryz.ntmps102
  go_wp2_with fail
  refine ((implIntOf_any 1 _ (by decide) (by decide)).mono fun _ _ h => NewS.newV h).mono ?_
  rintro e w1 ⟨u, Sx, rfl, ox, lx, b1⟩
  obtain ⟨Ax, cx, rfl⟩ := ownS_form ox.here
  have bb1 := Below.next bb0 b1
  replace ko := ko.below b1
  go_wp2_with fail
  refine (implRatInt_any _ (ofZ 1) _ one_szR ox.here (HS.out.below bb1)).mono ?_
  rintro e w2 ⟨uq, Sq, rfl, oq, lq, b2⟩
  obtain ⟨Aq, cq, Bq, dq, rfl⟩ := ownQ_form oq.here
  have bb2 := Below.next bb1 b2
  replace ko := ko.below b2
  replace ox := ox.below b2
  have hz1 : w.heap.size + 1 ≤ w1.heap.size := by have := b1.size; simp at this; omega
  have hz2 := b2.size
  have oqP := oq
  have cy0 := ko.here.cell 0 _ rfl
  have fy0 := Lib.frozen_of_heap ko.here 0
  have cy1 := ko.here.cell 1 _ rfl
  have fy1 := Lib.frozen_of_heap ko.here 1
  have cy2 := ko.here.cell 2 _ rfl
  have fy2 := Lib.frozen_of_heap ko.here 2
  have hlo : w.heap.size < w2.heap.size := by omega
  have hlo1 : ¬ w.heap.size = w2.heap.size := by omega
  have hlo2 : ¬ w2.heap.size = w.heap.size := by omega
  have kp := box_new (w2) #[.bool (makeQ (ofZ 1) (ofZ 1)).1.1.1, .slice Aq (makeQ (ofZ 1) (ofZ 1)).1.1.2.length cq, .slice Bq (makeQ (ofZ 1) (ofZ 1)).1.2.length dq] 32
  have alp := below_al (Below.refl (w2).heap.size (w2)) (.cells #[.bool (makeQ (ofZ 1) (ofZ 1)).1.1.1, .slice Aq (makeQ (ofZ 1) (ofZ 1)).1.1.2.length cq, .slice Bq (makeQ (ofZ 1) (ofZ 1)).1.2.length dq] 32)
  have bbp := Below.next bb2 alp
  replace ko := ko.below alp
  replace ox := ox.below alp
  replace oq := oq.below alp
  have HW := Lib.hid (newVQ_chg (R0 := unitQ.1) (v := .agg #[.bool (makeQ (ofZ 1) (ofZ 1)).1.1.1, .slice Aq (makeQ (ofZ 1) (ofZ 1)).1.1.2.length cq, .slice Bq (makeQ (ofZ 1) (ofZ 1)).1.2.length dq]) (T := [w.heap.size]) oqP (fun i hi hm => by have := (lq i hi).1; simp at hm; omega) (fun i hi => by simp at hi; omega) (fun i hi => by have := (lq i hi).1; omega) bb2)
  clear kp
  clear ko ox oq oqP lq lx
  go_wp2
  refine bodyPost_ret (v := .agg #[.bool (makeQ (ofZ 1) (ofZ 1)).1.1.1, .slice Aq (makeQ (ofZ 1) (ofZ 1)).1.1.2.length cq, .slice Bq (makeQ (ofZ 1) (ofZ 1)).1.2.length dq]) (by simp [results, Tryz.results102, go_sem, cy0, cy1, cy2, hlo]) rfl ?_
  refine HW.out _ ?_
  repeat (first | with_reducible exact Chg.refl _ _ | with_reducible refine Chg.setCell ?_ (by simp) _ | with_reducible refine Chg.trans ?_ (Chg.of_below (below_al (Below.refl _ _) _)))
set_option maxHeartbeats 8000000 in
set_option maxRecDepth 100000 in
theorem storedRate_any (v : Value) (l : List EI) (p q : ByteArray) (w : World) (hl : l.length ≤ 1099511627776) (hx : ∀ x ∈ l, x.2.2.1.2.length ≤ 1048576) (h : OwnER w v l) (hsen : Sen w) :
    Calls Tryz.prog 103 #[v, .string p, .string q] w (PostQn (storeT l p q).1 (storeT l p q).2 w) := by
  have HS := Lib.hid hsen
  clear hsen
  have HR := Lib.hid (show ∀ W, Below w.heap.size w W → OwnER W v l from fun W hb => h.below hb)
  obtain ⟨A, c, rfl, hc⟩ := h
  have HC := Lib.hid hc
  clear hc
  have bb0 : Below w.heap.size w (w.alloc (.cells #[.bool false, .slice none 0 0, .slice none 0 0] 32)) := below_al (Below.refl _ _) _
  have ko := (box_new w #[.bool false, .slice none 0 0, .slice none 0 0] 32)
  have HKO := Lib.hid (ko.lt w.heap.size (by simp))
  obtain ⟨R, hR⟩ : ∃ R, storeT l p q = R := ⟨_, rfl⟩
  have EQ := Lib.hid hR
  rw [hR]
  clear hR
  go_enter Tryz.func103, Tryz.ntmps103
  go_wp2_with fail
  refine (rateAt_any _ l p q _ (by omega) (HR.out _ bb0).rd).mono ?_
  rintro e w1 ⟨rfl, b1⟩
  have bb1 := Below.next bb0 b1
  replace ko := ko.below b1
  have hw1 : w.heap.size + 1 ≤ w1.heap.size := by have := b1.size; simp at this; omega
  by_cases h0 : 0 ≤ posE l p q
  · obtain ⟨n, x, hpn, hxn, han⟩ := posE_at h0
    have HV := Lib.hid (EQ.out.symm.trans (store_hit h0 hxn han))
    rw [hpn]
    clear h0 hpn han EQ
    obtain ⟨a, ux, rfl, ha, hc0, hc1, hc2, hc3, hc4, hox⟩ := HC.out n x hxn
    obtain ⟨A1, c1, rfl⟩ := own_len hox
    have HOX := Lib.hid hox
    have hxl := hx x (List.mem_of_getElem? hxn)
    have HCC := Lib.hid (show ∀ W, Below w.heap.size w W → W.cell? ⟨(a.add (n * 5)).block, (a.add (n * 5)).off + 2, none⟩ = some (.bool x.2.2.1.1) ∧ W.cell? ⟨(a.add (n * 5)).block, (a.add (n * 5)).off + 3, none⟩ = some (.slice A1 x.2.2.1.2.length c1) ∧ W.cell? ⟨(a.add (n * 5)).block, (a.add (n * 5)).off + 4, none⟩ = some (.int .i64 x.2.2.2) from fun W hW => ⟨(cell_keep5 hW ha n 2).trans hc2, (cell_keep5 hW ha n 3).trans hc3, (cell_keep5 hW ha n 4).trans hc4⟩)
    have HOD := Lib.hid (show ∀ W, Below w.heap.size w W → OwnD (.agg #[.bool x.2.2.1.1, .slice A1 x.2.2.1.2.length c1, .int .i64 x.2.2.2]) x.2.2 W from fun W hW => OwnD.mk (own_below HOX.out hW))
    have hn0 : (0 : Int) ≤ (n : Int) := by omega
    have hnl := (List.getElem?_eq_some_iff.1 hxn).1
    have hn1 : (n : Int) < (l.length : Int) := by omega
    clear hc0 hc1 hc2 hc3 hc4 hox ha hxn hx
    have hd0 : decide ((0 : Int) ≤ (n : Int)) = true := decide_eq_true hn0
    obtain ⟨k2, k3, k4⟩ := HCC.out _ bb1
    go_wp2_with fail
    refine (implDecRat_any _ x.2.2 _ hxl (HOD.out _ bb1) (HS.out.below bb1)).mono ?_
    rintro e w2 ⟨uq, Sq, rfl, oq, lq, b2⟩
    obtain ⟨Aq, cq, Bq, dq, rfl⟩ := ownQ_form oq.here
    have bb2 := Below.next bb1 b2
    replace ko := ko.below b2
    have HW := Lib.hid (newQn_chg (R0 := ratD x.2.2) (R1 := 2) (v := .agg #[.bool (ratD x.2.2).1.1, .slice Aq (ratD x.2.2).1.2.length cq, .slice Bq (ratD x.2.2).2.length dq]) (T := [w.heap.size]) oq (fun i hi hm => by have := (lq i hi).1; simp at hm; omega) (fun i hi => by simp at hi; omega) (fun i hi => by have := (lq i hi).1; omega) bb2)
    have cz0 := ko.here.cell 0 _ rfl
    have fz0 := Lib.frozen_of_heap ko.here 0
    have cz1 := ko.here.cell 1 _ rfl
    have fz1 := Lib.frozen_of_heap ko.here 1
    have cz2 := ko.here.cell 2 _ rfl
    have fz2 := Lib.frozen_of_heap ko.here 2
    clear ko oq lq k2 k3 k4
    go_wp2
    refine bodyPost_ret (v := .tuple #[.agg #[.bool (ratD x.2.2).1.1, .slice Aq (ratD x.2.2).1.2.length cq, .slice Bq (ratD x.2.2).2.length dq], .int .i64 2]) (by simp [results, Tryz.results103, go_sem, cz0, cz1, cz2]) rfl ?_
    rw [show R.1 = ratD x.2.2 by rw [HV.out], show R.2 = 2 by rw [HV.out]]
    refine HW.out _ ?_
    repeat (first | with_reducible exact Chg.refl _ _ | with_reducible refine Chg.setCell ?_ (by simp) _ | with_reducible refine Chg.trans ?_ (Chg.of_below (below_al (Below.refl _ _) _)))
  · have hd0 : decide (0 ≤ posE l p q) = false := decide_eq_false h0
    have HN := Lib.hid (show ¬ 0 ≤ posE l p q from h0)
    generalize hzz : posE l p q = z at hd0 ⊢
    have HZ := Lib.hid hzz
    clear hzz h0
    go_wp2_with fail
    refine (rateAt_any _ l q p _ (by omega) (HR.out _ bb1).rd).mono ?_
    rintro e w2 ⟨rfl, b2⟩
    have bb2 := Below.next bb1 b2
    replace ko := ko.below b2
    have hw2 := b2.size
    clear hd0
    by_cases h1 : 0 ≤ posE l q p
    · obtain ⟨n, x, hpn, hxn, han⟩ := posE_at h1
      have HV := Lib.hid (EQ.out.symm.trans (store_inv (by have := HN.out; omega) h1 hxn han))
      rw [hpn]
      clear h1 hpn han EQ
      obtain ⟨a, ux, rfl, ha, hc0, hc1, hc2, hc3, hc4, hox⟩ := HC.out n x hxn
      obtain ⟨A1, c1, rfl⟩ := own_len hox
      have HOX := Lib.hid hox
      have hxl := hx x (List.mem_of_getElem? hxn)
      have HCC := Lib.hid (show ∀ W, Below w.heap.size w W → W.cell? ⟨(a.add (n * 5)).block, (a.add (n * 5)).off + 2, none⟩ = some (.bool x.2.2.1.1) ∧ W.cell? ⟨(a.add (n * 5)).block, (a.add (n * 5)).off + 3, none⟩ = some (.slice A1 x.2.2.1.2.length c1) ∧ W.cell? ⟨(a.add (n * 5)).block, (a.add (n * 5)).off + 4, none⟩ = some (.int .i64 x.2.2.2) from fun W hW => ⟨(cell_keep5 hW ha n 2).trans hc2, (cell_keep5 hW ha n 3).trans hc3, (cell_keep5 hW ha n 4).trans hc4⟩)
      have HOD := Lib.hid (show ∀ W, Below w.heap.size w W → OwnD (.agg #[.bool x.2.2.1.1, .slice A1 x.2.2.1.2.length c1, .int .i64 x.2.2.2]) x.2.2 W from fun W hW => OwnD.mk (own_below HOX.out hW))
      have hn0 : (0 : Int) ≤ (n : Int) := by omega
      have hnl := (List.getElem?_eq_some_iff.1 hxn).1
      have hn1 : (n : Int) < (l.length : Int) := by omega
      clear hc0 hc1 hc2 hc3 hc4 hox ha hxn hx
      have hd1 : decide ((0 : Int) ≤ (n : Int)) = true := decide_eq_true hn0
      have HB2 := Lib.hid bb2
      obtain ⟨k2, k3, k4⟩ := HCC.out _ bb2
      skip
      go_upto_region 6 with fail
      go_cut [10] (fun s wx => NewLocV 32 (fun v => OwnQ v (divQ unitQ.1 (ratD x.2.2)).1) w2 s wx)
      case first =>
        have HC0 := Lib.hid (show Chg [] w2 w2.drew from (Chg.refl _ _).drew1)
        have HCr := Lib.hid (show Chg [] w2 w2 from Chg.refl _ _)
        have KL := Lib.hid (show ∀ W, Chg [] w2 W → W.cell? ⟨(a.add (n * 5)).block, (a.add (n * 5)).off + 2, none⟩ = some (.bool x.2.2.1.1) ∧ W.cell? ⟨(a.add (n * 5)).block, (a.add (n * 5)).off + 3, none⟩ = some (.slice A1 x.2.2.1.2.length c1) ∧ W.cell? ⟨(a.add (n * 5)).block, (a.add (n * 5)).off + 4, none⟩ = some (.int .i64 x.2.2.2) ∧ Hid (Chg [] w2 W) from fun W hc => ⟨(HCC.out W (below_chg HB2.out hc HB2.out.size (fun i hi => by simp at hi))).1, (HCC.out W (below_chg HB2.out hc HB2.out.size (fun i hi => by simp at hi))).2.1, (HCC.out W (below_chg HB2.out hc HB2.out.size (fun i hi => by simp at hi))).2.2, Lib.hid hc⟩)
        have BBF := Lib.hid (show ∀ W, Chg [] w2 W → Below w.heap.size w W from fun W hc => below_chg bb2 hc bb2.size (fun i hi => by simp at hi))
        go_region_held3 (fun W => W.cell? ⟨(a.add (n * 5)).block, (a.add (n * 5)).off + 2, none⟩ = some (.bool x.2.2.1.1) ∧ W.cell? ⟨(a.add (n * 5)).block, (a.add (n * 5)).off + 3, none⟩ = some (.slice A1 x.2.2.1.2.length c1) ∧ W.cell? ⟨(a.add (n * 5)).block, (a.add (n * 5)).off + 4, none⟩ = some (.int .i64 x.2.2.2) ∧ Hid (Chg [] w2 W))
          ((refine KL.out _ ?_; (first | exact HC5.out | exact HC4.out | exact HC3.out | exact HCr.out | exact HC0.out | exact HC5.out.drew1 | exact HC4.out.drew1 | exact HC3.out.drew1 | exact HCr.out.drew1 | exact HC0.out.drew1 | exact HC5.out.trans (Chg.of_below (below_al (Below.refl _ _) _)) | exact HC4.out.trans (Chg.of_below (below_al (Below.refl _ _) _)) | exact HC3.out.trans (Chg.of_below (below_al (Below.refl _ _) _)) | exact HCr.out.trans (Chg.of_below (below_al (Below.refl _ _) _)) | exact HC0.out.trans (Chg.of_below (below_al (Below.refl _ _) _)) | exact (Chg.setNew HC5.out (by first | exact HC5.out.size | exact HC4.out.size | exact HC3.out.size | exact HCr.out.size | exact HC0.out.size) _) | exact (Chg.setNew (Chg.setNew HC5.out (by first | exact HC5.out.size | exact HC4.out.size | exact HC3.out.size | exact HCr.out.size | exact HC0.out.size) _) (by first | exact HC5.out.size | exact HC4.out.size | exact HC3.out.size | exact HCr.out.size | exact HC0.out.size) _) | exact (Chg.setNew (Chg.setNew (Chg.setNew HC5.out (by first | exact HC5.out.size | exact HC4.out.size | exact HC3.out.size | exact HCr.out.size | exact HC0.out.size) _) (by first | exact HC5.out.size | exact HC4.out.size | exact HC3.out.size | exact HCr.out.size | exact HC0.out.size) _) (by first | exact HC5.out.size | exact HC4.out.size | exact HC3.out.size | exact HCr.out.size | exact HC0.out.size) _) | fail)))
          (first
            | (go_at_call 102; (have hBB := (‹_ ∧ _ ∧ _ ∧ Hid (Chg [] w2 _)›).2.2.2); (with_reducible refine (unitRat_any _ (HS.out.below (BBF.out _ hBB.out))).mono ?_); rintro e w3 ⟨uu, Su, rfl, ou, lu, b3⟩; have HC3 := Lib.hid (hBB.out.trans (Chg.of_below b3)); obtain ⟨Au, cu, Bu, du, rfl⟩ := ownQ_form ou.here; (first | (have early3 : At [w2.heap.size] (BoxAt w2.heap.size #[.bool false, .slice none 0 0, .slice none 0 0] 32) w3 := At.below (box_new w2.drew _ _) b3) | (have early3 := At.below (box_new _ #[.bool false, .slice none 0 0, .slice none 0 0] 32) b3) | (have early3 := At.below early2 b3) | skip); have HBZ3 := Lib.hid hBB.out.size; clear hBB)
            | (go_at_call 14; (have hBB := (‹_ ∧ _ ∧ _ ∧ Hid (Chg [] w2 _)›).2.2.2); (with_reducible refine (implDecRat_any _ x.2.2 _ hxl (HOD.out _ (BBF.out _ hBB.out)) (HS.out.below (BBF.out _ hBB.out))).mono ?_); rintro e w4 ⟨ud, Sd, rfl, od, ld, b4⟩; have HC4 := Lib.hid (hBB.out.trans (Chg.of_below b4)); (have ou_4 := At.below (by first | exact ou | exact At.below ou (below_al (Below.refl _ _) _) | exact At.below (At.below ou (below_al (Below.refl _ _) _)) (below_al (Below.refl _ _) _) | exact At.move ou (fun _ _ => rfl) (Nat.le_refl _) | exact At.below (At.move (w' := w2.drew) ou (fun _ _ => rfl) (Nat.le_refl _)) (below_al (Below.refl _ _) _)) b4); obtain ⟨Ad, cd, Bd_, dd, rfl⟩ := ownQ_form od.here; (first | (have early4 : At [w2.heap.size] (BoxAt w2.heap.size #[.bool false, .slice none 0 0, .slice none 0 0] 32) w4 := At.below (box_new w2.drew _ _) b4) | (have early4 := At.below (box_new _ #[.bool false, .slice none 0 0, .slice none 0 0] 32) b4) | (have early4 := At.below early3 b4) | skip); have HBZ4 := Lib.hid hBB.out.size; clear hBB)
            | (go_at_call 152; (have hBB := (‹_ ∧ _ ∧ _ ∧ Hid (Chg [] w2 _)›).2.2.2); (with_reducible refine (implRatDiv_any _ _ unitQ.1 (ratD x.2.2) _ unitQ_sz (ratD_sz _) (At.here (by first | exact ou_4 | exact At.below ou_4 (below_al (Below.refl _ _) _) | exact At.below (At.below ou_4 (below_al (Below.refl _ _) _)) (below_al (Below.refl _ _) _) | exact At.move ou_4 (fun _ _ => rfl) (Nat.le_refl _) | exact At.below (At.move (w' := w2.drew) ou_4 (fun _ _ => rfl) (Nat.le_refl _)) (below_al (Below.refl _ _) _))) (At.here (by first | exact od | exact At.below od (below_al (Below.refl _ _) _) | exact At.below (At.below od (below_al (Below.refl _ _) _)) (below_al (Below.refl _ _) _) | exact At.move od (fun _ _ => rfl) (Nat.le_refl _) | exact At.below (At.move (w' := w2.drew) od (fun _ _ => rfl) (Nat.le_refl _)) (below_al (Below.refl _ _) _))) (HS.out.below (BBF.out _ hBB.out))).mono ?_); rintro e w5 ⟨uv, Sv, rfl, ov, lv, b5⟩; have HC5 := Lib.hid (hBB.out.trans (Chg.of_below b5)); (have ou_5 := At.below (by first | exact ou_4 | exact At.below ou_4 (below_al (Below.refl _ _) _) | exact At.below (At.below ou_4 (below_al (Below.refl _ _) _)) (below_al (Below.refl _ _) _) | exact At.move ou_4 (fun _ _ => rfl) (Nat.le_refl _) | exact At.below (At.move (w' := w2.drew) ou_4 (fun _ _ => rfl) (Nat.le_refl _)) (below_al (Below.refl _ _) _)) b5); (have od_5 := At.below (by first | exact od | exact At.below od (below_al (Below.refl _ _) _) | exact At.below (At.below od (below_al (Below.refl _ _) _)) (below_al (Below.refl _ _) _) | exact At.move od (fun _ _ => rfl) (Nat.le_refl _) | exact At.below (At.move (w' := w2.drew) od (fun _ _ => rfl) (Nat.le_refl _)) (below_al (Below.refl _ _) _)) b5); obtain ⟨Av, cv, Bv, dv, rfl⟩ := ownQ_form ov.here; (first | have hbxg := At.below_lt (box_new _ #[.bool false, .slice none 0 0, .slice none 0 0] 32) b5 | have hbxg := At.below_lt early4 b5 | skip); (try (have hbxf := hbxg.1; have HGB := Lib.hid hbxg.2; clear hbxg)); (try (have cz0 := hbxf.here.cell 0 _ rfl; have fz0 := Lib.frozen_of_heap hbxf.here 0; have cz1 := hbxf.here.cell 1 _ rfl; have fz1 := Lib.frozen_of_heap hbxf.here 1; have cz2 := hbxf.here.cell 2 _ rfl; have fz2 := Lib.frozen_of_heap hbxf.here 2)); have HBZ5 := Lib.hid hBB.out.size; clear hBB))
        all_goals (go_wp2_with fail; go_meet; first | exact newLocV_last ov lv HBZ5.out (below_of_chg HC5.out) | exact newLocV_early3 hbxf.here ov lv (by first | exact HC4.out.size | exact HC3.out.size | exact HCr.out.size | exact HC0.out.size) HGB.out (below_of_chg HC5.out))
      rename World => w3
      obtain ⟨gv, csv, Sv, rfl, kv, ov, nv, lv, b3⟩ := hcut
      obtain ⟨Av, cv, Bv, dv, ev⟩ := ownQ_form ov.here
      injection ev with ev
      subst ev
      have bb3 := Below.next bb2 b3
      replace ko := ko.below b3
      have hzl := b3.size
      have HW := Lib.hid (newQn_chg (R0 := (divQ unitQ.1 (ratD x.2.2)).1) (R1 := 3) (v := .agg #[.bool (divQ unitQ.1 (ratD x.2.2)).1.1.1, .slice Av (divQ unitQ.1 (ratD x.2.2)).1.1.2.length cv, .slice Bv (divQ unitQ.1 (ratD x.2.2)).1.2.length dv]) (T := [w.heap.size]) ov (fun i hi hm => by have := (lv i (List.mem_cons_of_mem _ hi)).1; simp at hm; omega) (fun i hi => by simp at hi; omega) (fun i hi => by have := (lv i (List.mem_cons_of_mem _ hi)).1; omega) bb3)
      have cz0 := ko.here.cell 0 _ rfl
      have fz0 := Lib.frozen_of_heap ko.here 0
      have cz1 := ko.here.cell 1 _ rfl
      have fz1 := Lib.frozen_of_heap ko.here 1
      have cz2 := ko.here.cell 2 _ rfl
      have fz2 := Lib.frozen_of_heap ko.here 2
      have cp0 := kv.here.cell 0 _ rfl
      have cp1 := kv.here.cell 1 _ rfl
      have cp2 := kv.here.cell 2 _ rfl
      clear kv k2 k3 k4
      clear ko ov lv
      go_wp2
      refine bodyPost_ret (v := .tuple #[.agg #[.bool (divQ unitQ.1 (ratD x.2.2)).1.1.1, .slice Av (divQ unitQ.1 (ratD x.2.2)).1.1.2.length cv, .slice Bv (divQ unitQ.1 (ratD x.2.2)).1.2.length dv], .int .i64 3]) (by simp [results, Tryz.results103, go_sem, cz0, cz1, cz2]) rfl ?_
      rw [show R.1 = (divQ unitQ.1 (ratD x.2.2)).1 by rw [HV.out], show R.2 = 3 by rw [HV.out]]
      refine HW.out _ ?_
      repeat (first | with_reducible exact Chg.refl _ _ | with_reducible refine Chg.setCell ?_ (by simp) _ | with_reducible refine Chg.trans ?_ (Chg.of_below (below_al (Below.refl _ _) _)))
    · have HV := Lib.hid (EQ.out.symm.trans (store_none (by have := HN.out; omega) h1))
      have hd1 : decide (0 ≤ posE l q p) = false := decide_eq_false h1
      generalize posE l q p = y at hd1 ⊢
      clear h1
      have HW := Lib.hid (newQn_zero (T := [w.heap.size]) (fun i hi => by simp at hi; omega) bb2)
      have cz0 := ko.here.cell 0 _ rfl
      have fz0 := Lib.frozen_of_heap ko.here 0
      have cz1 := ko.here.cell 1 _ rfl
      have fz1 := Lib.frozen_of_heap ko.here 1
      have cz2 := ko.here.cell 2 _ rfl
      have fz2 := Lib.frozen_of_heap ko.here 2
      clear ko 
      go_wp2
      refine bodyPost_ret (v := .tuple #[.agg #[.bool false, .slice none 0 0, .slice none 0 0], .int .i64 0]) (by simp [results, Tryz.results103, go_sem, cz0, cz1, cz2]) rfl ?_
      rw [show R.1 = zeroQ by rw [HV.out], show R.2 = 0 by rw [HV.out]]
      refine HW.out _ ?_
      repeat (first | with_reducible exact Chg.refl _ _ | with_reducible refine Chg.setCell ?_ (by simp) _ | with_reducible refine Chg.trans ?_ (Chg.of_below (below_al (Below.refl _ _) _)))
end Go.Proofs.YtbpfabicampdkaaGreatDoor
