/-
  Values of type impl.Dec: what laws.toDec, eqDec, markDec, heldDec and szDec return; results that lie in their boxes.
  Amounts of money in plain words: what impl's ways of reckoning come to.
  Exchange rates in plain words: what each function of chapter 11 answers.
  Values of type impl.Rate: what laws.toRate, eqRate, markRate, heldRate and szRate return; results that lie in their boxes.
  What laws.markText returns: a text that is a function of its number alone.
  Slices of rates: what laws.szRateS, toRateS and eqRateS return.
  Tables of rates of the call's own, in whatever order their blocks lie; what a mark leaves in them; what laws.markRateS and heldRateS return.
-/
import Derived.Deep.RegionHeld3
import Derived.Deep.DeepCutAuto
import Derived.Test.YtbpfabicampdkaaGreatDoorJB2
namespace Go.Proofs.YtbpfabicampdkaaGreatDoor
open Go.RowKit

/-- a value that stands for it, its limbs of the call's own -/
def OwnD (v : Value) (q : DI) (w : World) : Prop := ∃ u, v = .agg #[.bool q.1.1, u, .int .i64 q.2] ∧ OwnI u q.1.2 w
def MarkD (v : Value) (q : DI) (m : Int) (w : World) : Prop := ∃ u, v = .agg #[.bool q.1.1, u, .int .i64 q.2] ∧ MarkI u q.1.2 m w
/-- a value that reads as it -/
def RdD (w : World) (v : Value) (q : DI) : Prop := ∃ u, v = .agg #[.bool q.1.1, u, .int .i64 q.2] ∧ Row w 0 w.heap.size u (intsV q.1.2)
theorem OwnD.rd {v : Value} {q : DI} {w : World} (h : OwnD v q w) : RdD w v q := by
  obtain ⟨u, rfl, o⟩ := h
  exact ⟨u, rfl, o.row⟩
theorem OwnD.mk {u : Value} {q : DI} {w : World} (h : OwnI u q.1.2 w) : OwnD (.agg #[.bool q.1.1, u, .int .i64 q.2]) q w := ⟨u, rfl, h⟩
theorem OwnD.below {w W : World} {v : Value} {q : DI} (h : OwnD v q w) (hb : Below w.heap.size w W) : OwnD v q W := by
  obtain ⟨u, rfl, o⟩ := h
  exact ⟨u, rfl, own_below o hb⟩
theorem RdD.below {w W : World} {v : Value} {q : DI} (h : RdD w v q) (hb : Below w.heap.size w W) : RdD W v q := by
  obtain ⟨u, rfl, o⟩ := h
  exact ⟨u, rfl, (o.below hb (Nat.le_refl _)).wide (Nat.le_refl _) hb.size⟩
def capD (q : DI) : Prop := q.1.2.length ≤ 9223372036854775807
theorem szD_nonneg (q : DI) : 0 ≤ szD q := by unfold szD szS szI; omega
theorem szD_len {q : DI} (h : szD q ≤ 1048576) : q.1.2.length ≤ 1048576 := by unfold szD szS szI at h; omega
theorem capD_of {q : DI} (h : szD q ≤ 1048576) : capD q := by have := szD_len h; unfold capD; omega
theorem ownD_form {v : Value} {q : DI} {w : World} (h : OwnD v q w) : ∃ A c, v = .agg #[.bool q.1.1, .slice A q.1.2.length c, .int .i64 q.2] := by
  obtain ⟨u, rfl, o⟩ := h
  obtain ⟨A, c, rfl⟩ := own_len o
  exact ⟨A, c, rfl⟩
theorem rdD_form {v : Value} {q : DI} {w : World} (h : RdD w v q) : ∃ A c, v = .agg #[.bool q.1.1, .slice A q.1.2.length c, .int .i64 q.2] := by
  obtain ⟨u, rfl, o⟩ := h
  obtain ⟨A, c, rfl⟩ := row_form o
  rw [intsV_length]
  exact ⟨A, c, rfl⟩
theorem ownD_open {u c s : Value} {q : DI} {w : World} (h : OwnD (.agg #[c, u, s]) q w) : OwnI u q.1.2 w := by
  obtain ⟨u', e, hu⟩ := h
  injection e with e
  simp at e
  obtain ⟨_, e2, _⟩ := e
  subst e2
  exact hu
theorem ownS_openD {u c : Value} {x : SI} {w : World} (h : OwnS (.agg #[c, u]) x w) : OwnI u x.2 w := by
  obtain ⟨u', e, hu⟩ := h
  injection e with e
  simp at e
  obtain ⟨_, e2⟩ := e
  subst e2
  exact hu
/-- a value whose blocks stay while others are written -/
theorem newV_chg {φ : Value → World → Prop} {S T : List Nat} {v : Value} {w W : World} (o : At S (φ v) W) (hd : ∀ i ∈ S, i ∉ T) (hT : ∀ i ∈ T, w.heap.size ≤ i) (l : ∀ i ∈ S, w.heap.size ≤ i) (hW : Below w.heap.size w W) :
    ∀ W', Chg T W W' → NewV φ w (.returned v) W' :=
  fun _ hc => ⟨v, S, rfl, o.chg hc hd, fun i hi => ⟨l i hi, Nat.lt_of_lt_of_le (o.lt i hi) hc.size⟩, below_chg hW hc hW.size hT⟩
/-- what a call answers: a new decimal number and a bool -/
def PostDb (R0 : DI) (R1 : Bool) (w : World) (e : Ending) (w' : World) : Prop :=
  ∃ (v : Value) (S : List Nat), e = .returned (.tuple #[v, .bool R1]) ∧ At S (OwnD v R0) w' ∧ Within S w.heap.size w'.heap.size ∧ Below w.heap.size w w'
theorem postDb_is {q : DI × Bool} {X : DI} {b : Bool} (e : q = (X, b)) {w w' : World} {n : Ending} (h : PostDb q.1 q.2 w n w') : PostDb X b w n w' := by rw [e] at h; exact h
theorem postDb_eq {q p : DI × Bool} (e : q = p) {w w' : World} {n : Ending} (h : PostDb q.1 q.2 w n w') : PostDb p.1 p.2 w n w' := by rw [e] at h; exact h
theorem postn_eqD {a b : Int} (h : a = b) {w w' : World} {e : Ending} (k : Postn a w e w') : Postn b w e w' := h ▸ k
theorem newVD_eq {a b : DI} (e : a = b) {w w' : World} {n : Ending} (h : NewV (fun v => OwnD v a) w n w') : NewV (fun v => OwnD v b) w n w' := e ▸ h
theorem postDb_chg {S T : List Nat} {v : Value} {x : DI} {b : Bool} {w W : World} (o : At S (OwnD v x) W) (hd : ∀ i ∈ S, i ∉ T) (hT : ∀ i ∈ T, w.heap.size ≤ i) (l : ∀ i ∈ S, w.heap.size ≤ i) (hW : Below w.heap.size w W) :
    ∀ W', Chg T W W' → PostDb x b w (.returned (.tuple #[v, .bool b])) W' :=
  fun _ hc => ⟨v, S, rfl, o.chg hc hd, fun i hi => ⟨l i hi, Nat.lt_of_lt_of_le (o.lt i hi) hc.size⟩, below_chg hW hc hW.size hT⟩
theorem chg_set3 {r : Nat} {c0 c1 c2 : Value} {W : World} : Chg [r] W (((W.setCell ⟨r, 0, none⟩ c0).setCell ⟨r, 1, none⟩ c1).setCell ⟨r, 2, none⟩ c2) := (((Chg.refl _ _).setCell (by simp) _).setCell (by simp) _).setCell (by simp) _
/-- results that lie in their cells at block r -/
theorem newD_at {r B : Nat} {S : List Nat} {c0 c1 c2 : Value} {x : DI} {w W : World} (o : At S (OwnD (.agg #[c0, c1, c2]) x) W) (l : Within S B W.heap.size) (hrB : r < B) (hr : w.heap.size ≤ r) (hW : Below w.heap.size w W) :
    NewV (fun v => OwnD v x) w (.returned (.agg #[c0, c1, c2])) (((W.setCell ⟨r, 0, none⟩ c0).setCell ⟨r, 1, none⟩ c1).setCell ⟨r, 2, none⟩ c2) :=
  newV_chg o (fun i hi hm => by have := l i hi; simp at hm; omega) (fun i hi => by simp at hi; omega) (fun i hi => by have := l i hi; omega) hW _ chg_set3
theorem newDb_at {r B : Nat} {S : List Nat} {c0 c1 c2 : Value} {x : DI} {b : Bool} {w W : World} (o : At S (OwnD (.agg #[c0, c1, c2]) x) W) (l : Within S B W.heap.size) (hrB : r < B) (hr : w.heap.size ≤ r) (hW : Below w.heap.size w W) :
    PostDb x b w (.returned (.tuple #[.agg #[c0, c1, c2], .bool b])) (((W.setCell ⟨r, 0, none⟩ c0).setCell ⟨r, 1, none⟩ c1).setCell ⟨r, 2, none⟩ c2) :=
  postDb_chg o (fun i hi hm => by have := l i hi; simp at hm; omega) (fun i hi => by simp at hi; omega) (fun i hi => by have := l i hi; omega) hW _ chg_set3
theorem ownD_zero (w : World) : OwnD (.agg #[.bool false, .slice none 0 0, .int .i64 0]) zeroD w := ⟨_, rfl, World.ownsRow_nil _ _ _ _⟩
theorem atD_zero (w : World) : At [] (OwnD (.agg #[.bool false, .slice none 0 0, .int .i64 0]) zeroD) w := ⟨ownD_zero _, fun _ hg => absurd hg List.not_mem_nil, fun w' _ => ownD_zero w'⟩
theorem newDb_zero {w W : World} (b : Bool) (hW : Below w.heap.size w W) : PostDb zeroD b w (.returned (.tuple #[.agg #[.bool false, .slice none 0 0, .int .i64 0], .bool b])) W :=
  ⟨_, [], rfl, atD_zero _, fun _ hg => absurd hg List.not_mem_nil, hW⟩
theorem newD_zero {w W : World} (hW : Below w.heap.size w W) : NewV (fun v => OwnD v zeroD) w (.returned (.agg #[.bool false, .slice none 0 0, .int .i64 0])) W :=
  ⟨_, [], rfl, atD_zero _, fun _ hg => absurd hg List.not_mem_nil, hW⟩
set_option maxHeartbeats 400000 in
set_option maxRecDepth 100000 in
theorem eqD_cal (u v : Value) (x y : DI) (w : World) (hz : capD x) (hu : RdD w u x) (hv : RdD w v y) : Calls Tryz.prog 93 #[u, v] w (Postb (decide (x = y)) w) := by
  obtain ⟨p, rfl, hp⟩ := hu
  obtain ⟨q, rfl, hq⟩ := hv
  obtain ⟨Ap, cp, rfl⟩ := row_form hp
  obtain ⟨Aq, cq, rfl⟩ := row_form hq
  simp only [intsV_length] at hp hq ⊢
  have hb : Below w.heap.size w ((w.alloc (.cells #[.bool x.1.1, .slice Ap x.1.2.length cp, .int .i64 x.2] 39)).alloc (.cells #[.bool y.1.1, .slice Aq y.1.2.length cq, .int .i64 y.2] 39)) := below_al (below_al (Below.refl _ _) _) _
  have kx := (box_new w #[.bool x.1.1, .slice Ap x.1.2.length cp, .int .i64 x.2] 39).below (below_al (Below.refl _ _) (.cells #[.bool y.1.1, .slice Aq y.1.2.length cq, .int .i64 y.2] 39))
  have ky := box_new (w.alloc (.cells #[.bool x.1.1, .slice Ap x.1.2.length cp, .int .i64 x.2] 39)) #[.bool y.1.1, .slice Aq y.1.2.length cq, .int .i64 y.2] 39
  rw [show (w.alloc (.cells #[.bool x.1.1, .slice Ap x.1.2.length cp, .int .i64 x.2] 39)).heap.size = w.heap.size + 1 by simp] at ky
  go_enter Tryz.func93, Tryz.ntmps93
  go_wp2_with fail
  refine (eqSigned_at _ _ x.1 y.1 _ hz (rdS_below hp hb) (rdS_below hq hb)).mono ?_
  rintro e w1 ⟨rfl, b1⟩
  have bb1 := Below.next hb b1
  replace kx := kx.below b1
  replace ky := ky.below b1
  have cx2 := kx.here.cell 2 _ rfl
  have cy2 := ky.here.cell 2 _ rfl
  clear hp hq kx ky
  by_cases h1 : x.1 = y.1
  · rw [decide_eq_true h1]
    have H1 := Lib.hid h1
    clear h1
    by_cases h2 : x.2 = y.2
    · have HV := Lib.hid (show decide (x = y) = true from decide_eq_true (Prod.ext H1.out h2))
      have hq2 : (x.2 != y.2) = false := by rw [h2]; exact bne_self_eq_false _
      clear h2
      go_wp2
      go_ret
      exact ⟨ret_bool HV.out.symm, bb1⟩
    · have HV := Lib.hid (show decide (x = y) = false from decide_eq_false (fun e => h2 (by rw [e])))
      have hq2 : (x.2 != y.2) = true := by rw [bne_iff_ne]; exact h2
      clear h2
      go_wp2
      go_ret
      exact ⟨ret_bool HV.out.symm, bb1⟩
  · rw [decide_eq_false h1]
    have HV := Lib.hid (show decide (x = y) = false from decide_eq_false (fun e => h1 (by rw [e])))
    clear h1
    go_wp2
    go_ret
    exact ⟨ret_bool HV.out.symm, bb1⟩
set_option maxHeartbeats 400000 in
set_option maxRecDepth 100000 in
theorem szD_cal (v : Value) (x : DI) (left : Int) (w : World) (hl : capD x) (h0 : 0 ≤ left) (h1 : left ≤ 1048576) (h : RdD w v x) : Calls Tryz.prog 173 #[v, .int .i64 left] w (Postn (leftI left (szD x)) w) := by
  obtain ⟨p, rfl, hp⟩ := h
  obtain ⟨Ap, cp, rfl⟩ := row_form hp
  simp only [intsV_length] at hp ⊢
  have hb := below_al (Below.refl w.heap.size w) (.cells #[.bool x.1.1, .slice Ap x.1.2.length cp, .int .i64 x.2] 163)
  have kx := box_new w #[.bool x.1.1, .slice Ap x.1.2.length cp, .int .i64 x.2] 163
  have kx_c0 := kx.here.cell 0 _ rfl
  have kx_c1 := kx.here.cell 1 _ rfl
  go_enter Tryz.func173, Tryz.ntmps173
  go_wp2_with fail
  clear kx_c0 kx_c1 kx
  refine (szSigned_at _ x.1 left _ hl h0 h1 (rdS_below hp hb)).mono ?_
  rintro e w1 ⟨rfl, b1⟩
  have bb1 := Below.next hb b1
  have hq : leftI left (szS x.1) < 0 ∧ leftI left (szS x.1) = -1 ∨ ¬ leftI left (szS x.1) < 0 := by unfold leftI; split <;> omega
  obtain ⟨z, hz⟩ : ∃ z, leftI left (szS x.1) = z := ⟨_, rfl⟩
  have HL := Lib.hid (show leftI left (szD x) = z from hz)
  rw [hz] at hq ⊢
  clear hp hz
  rcases hq with ⟨h2, h3⟩ | h2
  · have hneg : decide (z < 0) = true := decide_eq_true h2
    have H3 := Lib.hid h3
    clear h2 h3
    go_wp2
    go_ret
    exact ⟨ret_int (H3.out.symm.trans HL.out.symm), bb1⟩
  · have hneg : decide (z < 0) = false := decide_eq_false h2
    clear h2
    go_wp2
    go_ret
    exact ⟨ret_int HL.out.symm, bb1⟩
set_option maxHeartbeats 1000000 in
set_option maxRecDepth 100000 in
theorem toD_new (v : Value) (x : DI) (w : World) (hz : szD x ≤ 1048576) (h : RdD w v x) : Calls Tryz.prog 174 #[v] w (NewV (fun u => OwnD u x) w) := by
  have hl := szD_len hz
  obtain ⟨p, rfl, hp⟩ := h
  obtain ⟨Ap, cp, rfl⟩ := row_form hp
  simp only [intsV_length] at hp ⊢
  have h3 := alloc3 w (.cells #[.bool x.1.1, .slice Ap x.1.2.length cp, .int .i64 x.2] 163) (.cells #[.bool false, .slice none 0 0, .int .i64 0] 39) (.cells #[.bool false, .slice none 0 0, .int .i64 0] 39)
  have hb3 := below3 w (.cells #[.bool x.1.1, .slice Ap x.1.2.length cp, .int .i64 x.2] 163) (.cells #[.bool false, .slice none 0 0, .int .i64 0] 39) (.cells #[.bool false, .slice none 0 0, .int .i64 0] 39)
  obtain ⟨W0, hW0⟩ : ∃ W0, W0 = (((w.alloc (.cells #[.bool x.1.1, .slice Ap x.1.2.length cp, .int .i64 x.2] 163)).alloc (.cells #[.bool false, .slice none 0 0, .int .i64 0] 39)).alloc (.cells #[.bool false, .slice none 0 0, .int .i64 0] 39)) := ⟨_, rfl⟩
  rw [← hW0] at h3 hb3
  have kb : At [w.heap.size] (BoxAt w.heap.size #[.bool x.1.1, .slice Ap x.1.2.length cp, .int .i64 x.2] 163) W0 := box_at h3.1
  have kr : At [w.heap.size + 1] (BoxAt (w.heap.size + 1) #[.bool false, .slice none 0 0, .int .i64 0] 39) W0 := box_at h3.2.1
  have ko : At [w.heap.size + 1 + 1] (BoxAt (w.heap.size + 1 + 1) #[.bool false, .slice none 0 0, .int .i64 0] 39) W0 := box_at h3.2.2.1
  have hz0 : W0.heap.size = w.heap.size + 3 := h3.2.2.2
  have HW := Lib.hid hW0
  clear h3 hW0
  have cb0 := kb.here.cell 0 _ rfl
  have cb1 := kb.here.cell 1 _ rfl
  go_enter Tryz.func174, Tryz.ntmps174
  go_wp2_with fail
  rw [← HW.out]
  refine (toSigned_at _ x.1 _ hl (rdS_below hp hb3)).mono ?_
  rintro e w1 ⟨u, rfl, o1, b1⟩
  obtain ⟨Au, cu, rfl⟩ := own_len o1
  have bb1 := Below.next hb3 b1
  replace kb := kb.below b1
  replace kr := kr.below b1
  replace ko := ko.below b1
  have HR := Lib.hid (newV_chg (φ := fun u => OwnD u x) (v := .agg #[.bool x.1.1, .slice Au x.1.2.length cu, .int .i64 x.2]) (T := [w.heap.size + 1, w.heap.size + 1 + 1]) ((own_at' o1).imp fun _ h => (OwnD.mk h : OwnD _ x _)) (fun i hi hm => by have := own_within o1 i hi; simp at hm; omega) (fun i hi => by simp at hi; omega) (fun i hi => by have := own_within o1 i hi; omega) bb1)
  have cb2 := kb.here.cell 2 _ rfl
  have co0 := ko.here.cell 0 _ rfl
  have co1 := ko.here.cell 1 _ rfl
  have co2 := ko.here.cell 2 _ rfl
  have fo0 := Lib.frozen_of_heap ko.here 0
  have fo1 := Lib.frozen_of_heap ko.here 1
  have fo2 := Lib.frozen_of_heap ko.here 2
  have cr0 := kr.here.cell 0 _ rfl
  have cr1 := kr.here.cell 1 _ rfl
  have cr2 := kr.here.cell 2 _ rfl
  have fr0 := Lib.frozen_of_heap kr.here 0
  have fr1 := Lib.frozen_of_heap kr.here 1
  have fr2 := Lib.frozen_of_heap kr.here 2
  clear kb kr ko o1 b1 bb1 hp cb0 cb1
  go_wp2
  refine bodyPost_ret (v := .agg #[.bool x.1.1, .slice Au x.1.2.length cu, .int .i64 x.2]) (by simp [results, Tryz.results174, go_sem, cr0, cr1, cr2]) rfl ?_
  exact HR.out _ ((((((Chg.refl _ _).setCell (by simp) _).setCell (by simp) _).setCell (by simp) _).setCell (by simp) _).setCell (by simp) _ |>.setCell (by simp) _)
set_option maxHeartbeats 400000 in
set_option maxRecDepth 100000 in
theorem markD_cal (v : Value) (x : DI) (S : List Nat) (m : Int) (w : World) (hm : m + szD x ≤ 9223372036854775807) (hm0 : 0 ≤ m) (h : At S (OwnD v x) w) :
    Calls Tryz.prog 94 #[v, .int .i64 m] w fun e w' => e = .returned (.int .i64 (m + szD x)) ∧ At S (MarkD v x m) w' ∧ Chg S w w' := by
  obtain ⟨A, c, rfl⟩ := ownD_form h.here
  have hbx := below_al (Below.refl w.heap.size w) (.cells #[.bool x.1.1, .slice A x.1.2.length c, .int .i64 x.2] 39)
  have kx := box_new w #[.bool x.1.1, .slice A x.1.2.length c, .int .i64 x.2] 39
  have ax := (h.below hbx).imp (fun _ h => (OwnS.mk (ownD_open h) : OwnS (.agg #[.bool x.1.1, .slice A x.1.2.length c]) x.1 _))
  have kx_c0 := kx.here.cell 0 _ rfl
  have kx_c1 := kx.here.cell 1 _ rfl
  have HZ := Lib.hid (show szD x = szS x.1 from rfl)
  have HBX := Lib.hid hbx
  clear h kx
  go_enter Tryz.func94, Tryz.ntmps94
  go_wp2_with fail
  clear kx_c0 kx_c1
  refine (markSigned_at _ x.1 S m _ hm hm0 ax).mono ?_
  rintro e w1 ⟨rfl, mu, c1⟩
  have hall := Lib.hid (mu.imp (fun _ h => (show MarkD (.agg #[.bool x.1.1, .slice A x.1.2.length c, .int .i64 x.2]) x m _ from by
    obtain ⟨u', e1, hu'⟩ := h
    injection e1 with e1
    have e2 : u' = .slice A x.1.2.length c := by simpa using e1.symm
    rw [e2] at hu'
    exact ⟨_, rfl, hu'⟩)))
  have hchg := Lib.hid ((Chg.of_below HBX.out).trans c1 : Chg S w w1)
  clear mu c1
  go_wp2
  go_ret
  exact ⟨ret_int (by rw [HZ.out]), hall.out, hchg.out⟩
set_option maxHeartbeats 400000 in
set_option maxRecDepth 100000 in
theorem heldD_cal (v : Value) (x : DI) (m : Int) (w : World) (hm : m + szD x ≤ 9223372036854775807) (hm0 : 0 ≤ m) (h : MarkD v x m w) : Calls Tryz.prog 95 #[v, .int .i64 m] w (Postn (m + szD x) w) := by
  obtain ⟨u, rfl, ou⟩ := h
  obtain ⟨A, c, rfl⟩ := own_len ou
  have hs0 : 0 ≤ szS x.1 := by unfold szS szI; omega
  have HZ := Lib.hid (show szD x = szS x.1 from rfl)
  rw [HZ.out] at hm
  have hbx := below_al (Below.refl w.heap.size w) (.cells #[.bool x.1.1, .slice A x.1.2.length c, .int .i64 x.2] 39)
  have kx := box_new w #[.bool x.1.1, .slice A x.1.2.length c, .int .i64 x.2] 39
  have ou1 : MarkS (.agg #[.bool x.1.1, .slice A x.1.2.length c]) x.1 m _ := ⟨_, rfl, own_below ou hbx⟩
  have kx_c0 := kx.here.cell 0 _ rfl
  have kx_c1 := kx.here.cell 1 _ rfl
  clear ou kx
  go_enter Tryz.func95, Tryz.ntmps95
  go_wp2_with fail
  clear kx_c0 kx_c1
  refine (heldSigned_at _ x.1 m _ (by omega) hm0 ou1).mono ?_
  rintro e w1 ⟨rfl, b1⟩
  have bb1 := Below.next hbx b1
  have hn1 : decide (m + szS x.1 < 0) = false := decide_eq_false (by omega)
  clear ou1
  go_wp2
  go_ret
  exact ⟨ret_int (by rw [HZ.out]), bb1⟩
end Go.Proofs.YtbpfabicampdkaaGreatDoor

namespace Go.Proofs.YtbpfabicampdkaaGreatDoor
open Go.RowKit

theorem negS_parts {x : SI} (h : okS x = true) : negS x = (decide (0 < cmpS x zeroS), x.2) := by
  have e := okS_ofZ h
  have hl : (limbs (valS x).natAbs).length ≤ 50 := by
    by_cases hl : (limbs (valS x).natAbs).length ≤ 50
    · exact hl
    · have e2 := e.symm.trans (ofZ_big hl)
      subst e2
      rw [zeroS_val, show (0 : Int).natAbs = 0 from rfl, show limbs 0 = [] by rw [limbs, dif_pos rfl]]
      decide
  have e2 : limbs (valS x).natAbs = x.2 := by
    unfold ofZ at e
    rw [if_pos hl] at e
    exact congrArg Prod.snd e
  unfold negS cmpS
  rw [if_pos h, if_pos ⟨h, zeroS_ok⟩, zeroS_val]
  unfold ofZ
  rw [Int.natAbs_neg, if_pos hl, e2]
  congr 1
  unfold cmpI
  rw [decide_eq_decide]
  split
  · omega
  · split <;> omega
theorem addS_zeroL {x : SI} (h : okS x = true) : addS zeroS x = x := by
  unfold addS
  rw [if_pos ⟨zeroS_ok, h⟩, zeroS_val, Int.zero_add, okS_ofZ h]
theorem okM_parts {m : MI} (h : okM m = true) : knownC m.1 = true ∧ okS m.2 = true ∧ m.2.2.length ≤ 4 := by
  unfold okM at h
  rw [Bool.and_eq_true, Bool.and_eq_true, decide_eq_true_eq] at h
  exact ⟨h.1.1, h.1.2, h.2⟩
theorem okM_of {m : MI} (h1 : knownC m.1 = true) (h2 : okS m.2 = true) (h3 : m.2.2.length ≤ 4) : okM m = true := by
  unfold okM
  rw [h1, h2, decide_eq_true h3]
  rfl
theorem bothM_parts {m n : MI} (h : bothM m n = true) : okM m = true ∧ okM n = true ∧ m.1 = n.1 := by
  unfold bothM at h
  rw [Bool.and_eq_true, Bool.and_eq_true, decide_eq_true_eq] at h
  exact ⟨h.1.1, h.1.2, h.2⟩
theorem knownC_empty : knownC ⟨#[]⟩ = false := by decide +kernel
theorem okM_zero : okM zeroM = false := by
  unfold okM
  rw [show knownC zeroM.1 = false from knownC_empty]
  rfl
theorem okM_negS {m : MI} (h : okM m = true) : okM (m.1, negS m.2) = true := by
  obtain ⟨h1, h2, h3⟩ := okM_parts h
  refine okM_of h1 (negS_ok _) ?_
  show (negS m.2).2.length ≤ 4
  rw [negS_parts h2]
  exact h3
theorem negM_good {m : MI} (h : okM m = true) : negM m = ((m.1, (decide (0 < cmpS m.2 zeroS), m.2.2)), true) := by
  unfold negM makeM
  rw [if_pos h, if_pos (okM_negS h), negS_parts (okM_parts h).2.1]
theorem negM_bad {m : MI} (h : ¬ okM m = true) : negM m = (zeroM, false) := by unfold negM; rw [if_neg h]
theorem negM_len {m : MI} (h : m.2.2.length ≤ 1048576) : (negM m).1.2.2.length ≤ 1048576 := by
  by_cases hk : okM m = true
  · rw [negM_good hk]; exact h
  · rw [negM_bad hk]; exact Nat.zero_le _
theorem sub_neg (m n : MI) : addM m (negM n).1 = subM m n := by
  by_cases h : okM n = true
  · have hp := okM_parts h
    have e : (negM n).1 = (n.1, negS n.2) := by rw [negM_good h, negS_parts hp.2.1]
    rw [e]
    unfold addM subM
    rw [show bothM m (n.1, negS n.2) = bothM m n by unfold bothM; rw [okM_negS h, h]]
    by_cases hb : bothM m n = true
    · rw [if_pos hb, if_pos hb]
      have hm := (okM_parts (bothM_parts hb).1).2.1
      show makeM m.1 (addS m.2 (negS n.2)) = makeM m.1 (subS m.2 n.2)
      congr 1
      unfold addS subS
      rw [if_pos ⟨hm, negS_ok _⟩, if_pos ⟨hm, hp.2.1⟩, negS_val hp.2.1, Int.sub_eq_add_neg]
    · rw [if_neg hb, if_neg hb]
  · rw [negM_bad h]
    unfold addM subM
    rw [if_neg (by unfold bothM; rw [okM_zero, Bool.and_false, Bool.false_and]; decide), if_neg (fun hb => h (bothM_parts hb).2.1)]
theorem okM_size {m : MI} (h : okM m = true) : m.1.size ≤ 3 := by
  obtain ⟨r, hr, e, _⟩ := known_row (okM_parts h).1
  rw [← e]
  have h : (specT.all fun r => decide (r.1.size ≤ 3)) = true := by decide +kernel
  exact of_decide_eq_true (List.all_eq_true.1 h r hr)
theorem makeM_sz (cu : ByteArray) (x : SI) : szM (makeM cu x).1 ≤ 1048576 := by
  unfold makeM
  split
  · rename_i h
    have h1 := okM_size h
    have h2 := (okM_parts h).2.2
    dsimp only at h1 h2
    unfold szM szS szI
    dsimp only
    omega
  · decide
theorem addM_sz (m n : MI) : szM (addM m n).1 ≤ 1048576 := by unfold addM; split; exact makeM_sz _ _; decide
theorem subM_sz (m n : MI) : szM (subM m n).1 ≤ 1048576 := by unfold subM; split; exact makeM_sz _ _; decide
theorem negM_sz (m : MI) : szM (negM m).1 ≤ 1048576 := by unfold negM; split; exact makeM_sz _ _; decide
theorem timesM_sz (m : MI) (k : Int) : szM (timesM m k).1 ≤ 1048576 := by unfold timesM; split; exact makeM_sz _ _; decide
end Go.Proofs.YtbpfabicampdkaaGreatDoor

namespace Go.Proofs.YtbpfabicampdkaaGreatDoor
open Go.RowKit

abbrev EI : Type := ByteArray × ByteArray × DI
def zeroE : EI := (⟨#[]⟩, ⟨#[]⟩, zeroD)
def szE (r : EI) : Int := r.1.size + r.2.1.size + szD r.2.2
/-- how many cells a mark of it takes -/
def mkE (r : EI) : Int := szD r.2.2
def okE (r : EI) : Bool := knownC r.1 && (knownC r.2.1 && (decide (¬ r.1 = r.2.1) && (okD r.2.2 && (decide (0 < cmpS r.2.2.1 zeroS) && decide (r.2.2.1.2.length ≤ 2)))))
theorem okE_parts {r : EI} (h : okE r = true) : knownC r.1 = true ∧ knownC r.2.1 = true ∧ ¬ r.1 = r.2.1 ∧ okD r.2.2 = true ∧ 0 < cmpS r.2.2.1 zeroS ∧ r.2.2.1.2.length ≤ 2 := by
  unfold okE at h
  rw [Bool.and_eq_true, Bool.and_eq_true, Bool.and_eq_true, Bool.and_eq_true, Bool.and_eq_true, decide_eq_true_eq, decide_eq_true_eq, decide_eq_true_eq] at h
  exact h
/-- a table: its pivot and its list -/
abbrev TI : Type := ByteArray × List EI
/-- where the rate of a pair stands, or the list's length -/
def atE (l : List EI) (a b : ByteArray) : Nat := l.findIdx fun r => decide (r.1 = a) && decide (r.2.1 = b)
/-- the same, as spec answers it: -1 for none -/
def posE (l : List EI) (a b : ByteArray) : Int := if atE l a b < l.length then atE l a b else -1
def okT (t : TI) : Bool := knownC t.1 && (decide (t.2.length ≤ 12) && (List.range t.2.length).all fun i => match t.2[i]? with
  | some r => okE r && decide (posE t.2 r.1 r.2.1 = i)
  | none => true)
def putT (t : TI) (r : EI) : TI × Bool :=
  if okT t = true ∧ okE r = true then
    (let u : TI := if posE t.2 r.1 r.2.1 < 0 then (t.1, t.2 ++ [r]) else (t.1, t.2.set (posE t.2 r.1 r.2.1).toNat r)
     if okT u = true then (u, true) else ((⟨#[]⟩, []), false))
  else ((⟨#[]⟩, []), false)
/-- how one step goes: 2 stored, 3 the other way round, 0 not at all -/
def legT (l : List EI) (a b : ByteArray) : Int := if 0 ≤ posE l a b then 2 else if 0 ≤ posE l b a then 3 else 0
def howT (t : TI) (a b : ByteArray) : Int :=
  if okT t = true ∧ knownC a = true ∧ knownC b = true then
    (if a = b then 1 else if legT t.2 a b ≠ 0 then legT t.2 a b
     else if ¬ a = t.1 ∧ ¬ b = t.1 ∧ legT t.2 a t.1 ≠ 0 ∧ legT t.2 t.1 b ≠ 0 then 4 else 0)
  else 0
def pathT (t : TI) (a b : ByteArray) : List ByteArray :=
  if howT t a b = 1 then [a] else if howT t a b = 2 ∨ howT t a b = 3 then [a, b] else if howT t a b = 4 then [a, t.1, b] else []
theorem atE_next {l : List EI} {a b : ByteArray} {k : Nat} {x : EI} (hk : k ≤ atE l a b) (hx : l[k]? = some x) (hn : ¬ (x.1 = a ∧ x.2.1 = b)) : k + 1 ≤ atE l a b := by
  obtain ⟨h1, h2⟩ := List.getElem?_eq_some_iff.1 hx
  rcases Nat.lt_or_eq_of_le hk with h | h
  · exact h
  · exfalso
    have hw : l.findIdx (fun r => decide (r.1 = a) && decide (r.2.1 = b)) < l.length := by show atE l a b < _; omega
    have hp := List.findIdx_getElem (w := hw)
    have he : l[l.findIdx (fun r => decide (r.1 = a) && decide (r.2.1 = b))]? = some x := by rw [← hx]; congr 1; exact h.symm
    rw [(List.getElem?_eq_some_iff.1 he).2] at hp
    simp at hp
    exact hn hp
theorem posE_hit {l : List EI} {a b : ByteArray} {k : Nat} {x : EI} (hk : k ≤ atE l a b) (hx : l[k]? = some x) (hn : x.1 = a ∧ x.2.1 = b) : posE l a b = k := by
  obtain ⟨h1, h2⟩ := List.getElem?_eq_some_iff.1 hx
  rcases Nat.lt_or_eq_of_le hk with h | h
  · exfalso
    have hp := List.not_of_lt_findIdx (xs := l) (p := fun r => decide (r.1 = a) && decide (r.2.1 = b)) h
    rw [h2] at hp
    simp at hp
    exact hp hn.1 hn.2
  · unfold posE
    rw [← h, if_pos h1]
theorem posE_none {l : List EI} {a b : ByteArray} (hk : l.length ≤ atE l a b) : posE l a b = -1 := by
  unfold posE
  rw [if_neg (by omega)]
theorem posE_at {l : List EI} {a b : ByteArray} (h : 0 ≤ posE l a b) : ∃ (n : Nat) (x : EI), posE l a b = n ∧ l[n]? = some x ∧ atE l a b = n := by
  unfold posE at h ⊢
  split at h
  · rename_i hn
    rw [if_pos hn]
    exact ⟨_, _, rfl, List.getElem?_eq_getElem hn, rfl⟩
  · omega
/-- what RatesOk asks of the element at i -/
def rowT (l : List EI) (i : Nat) : Bool := match l[i]? with
  | some r => okE r && decide (posE l r.1 r.2.1 = i)
  | none => true
theorem rowT_at {l : List EI} {i : Nat} {x : EI} (h : l[i]? = some x) : rowT l i = (okE x && decide (posE l x.1 x.2.1 = i)) := by unfold rowT; rw [h]
theorem okT_rows (t : TI) : okT t = (knownC t.1 && (decide (t.2.length ≤ 12) && (List.range t.2.length).all (rowT t.2))) := rfl
theorem rows_next {l : List EI} {k : Nat} (h : (List.range k).all (rowT l) = true) (hk : rowT l k = true) : (List.range (k + 1)).all (rowT l) = true := by
  rw [List.range_succ, List.all_append, h]
  simp [hk]
theorem rows_bad {l : List EI} {k : Nat} (hl : k < l.length) (hk : ¬ rowT l k = true) : (List.range l.length).all (rowT l) = false := by
  rw [Bool.eq_false_iff]
  intro h
  exact hk (List.all_eq_true.1 h k (List.mem_range.2 hl))
end Go.Proofs.YtbpfabicampdkaaGreatDoor

namespace Go.Proofs.YtbpfabicampdkaaGreatDoor
open Go.RowKit

/-- a value that stands for it, its limbs of the call's own -/
def OwnE (v : Value) (q : EI) (w : World) : Prop := ∃ u, v = .agg #[.string q.1, .string q.2.1, .bool q.2.2.1.1, u, .int .i64 q.2.2.2] ∧ OwnI u q.2.2.1.2 w
def MarkE (v : Value) (q : EI) (m : Int) (w : World) : Prop := ∃ u, v = .agg #[.string q.1, .string q.2.1, .bool q.2.2.1.1, u, .int .i64 q.2.2.2] ∧ MarkI u q.2.2.1.2 m w
/-- a value that reads as it -/
def RdE (w : World) (v : Value) (q : EI) : Prop := ∃ u, v = .agg #[.string q.1, .string q.2.1, .bool q.2.2.1.1, u, .int .i64 q.2.2.2] ∧ Row w 0 w.heap.size u (intsV q.2.2.1.2)
theorem OwnE.rd {v : Value} {q : EI} {w : World} (h : OwnE v q w) : RdE w v q := by
  obtain ⟨u, rfl, o⟩ := h
  exact ⟨u, rfl, o.row⟩
theorem OwnE.mk {u : Value} {q : EI} {w : World} (h : OwnI u q.2.2.1.2 w) : OwnE (.agg #[.string q.1, .string q.2.1, .bool q.2.2.1.1, u, .int .i64 q.2.2.2]) q w := ⟨u, rfl, h⟩
theorem OwnE.below {w W : World} {v : Value} {q : EI} (h : OwnE v q w) (hb : Below w.heap.size w W) : OwnE v q W := by
  obtain ⟨u, rfl, o⟩ := h
  exact ⟨u, rfl, own_below o hb⟩
theorem RdE.below {w W : World} {v : Value} {q : EI} (h : RdE w v q) (hb : Below w.heap.size w W) : RdE W v q := by
  obtain ⟨u, rfl, o⟩ := h
  exact ⟨u, rfl, (o.below hb (Nat.le_refl _)).wide (Nat.le_refl _) hb.size⟩
def capE (q : EI) : Prop := q.1.size ≤ 9223372036854775807 ∧ q.2.1.size ≤ 9223372036854775807 ∧ q.2.2.1.2.length ≤ 9223372036854775807
theorem szE_nonneg (q : EI) : 0 ≤ szE q := by have := szD_nonneg q.2.2; unfold szE; omega
theorem szE_len {q : EI} (h : szE q ≤ 1048576) : q.1.size ≤ 1048576 ∧ q.2.1.size ≤ 1048576 ∧ q.2.2.1.2.length ≤ 1048576 := by
  have h0 := szD_nonneg q.2.2
  unfold szE at h
  exact ⟨by omega, by omega, szD_len (by omega)⟩
theorem capE_of {q : EI} (h : szE q ≤ 1048576) : capE q := by have := szE_len h; unfold capE; omega
theorem mkE_range (q : EI) : 0 ≤ mkE q ∧ mkE q ≤ szE q := by have := szD_nonneg q.2.2; unfold mkE szE; omega
theorem ownE_form {v : Value} {q : EI} {w : World} (h : OwnE v q w) : ∃ A c, v = .agg #[.string q.1, .string q.2.1, .bool q.2.2.1.1, .slice A q.2.2.1.2.length c, .int .i64 q.2.2.2] := by
  obtain ⟨u, rfl, o⟩ := h
  obtain ⟨A, c, rfl⟩ := own_len o
  exact ⟨A, c, rfl⟩
theorem rdE_form {v : Value} {q : EI} {w : World} (h : RdE w v q) : ∃ A c, v = .agg #[.string q.1, .string q.2.1, .bool q.2.2.1.1, .slice A q.2.2.1.2.length c, .int .i64 q.2.2.2] := by
  obtain ⟨u, rfl, o⟩ := h
  obtain ⟨A, c, rfl⟩ := row_form o
  rw [intsV_length]
  exact ⟨A, c, rfl⟩
theorem ownE_open {u c s n k : Value} {q : EI} {w : World} (h : OwnE (.agg #[c, s, n, u, k]) q w) : OwnI u q.2.2.1.2 w := by
  obtain ⟨u', e, hu⟩ := h
  injection e with e
  simp at e
  obtain ⟨_, _, _, e2, _⟩ := e
  subst e2
  exact hu
/-- what a call answers: a new rate and a bool -/
def PostEb (R0 : EI) (R1 : Bool) (w : World) (e : Ending) (w' : World) : Prop :=
  ∃ (v : Value) (S : List Nat), e = .returned (.tuple #[v, .bool R1]) ∧ At S (OwnE v R0) w' ∧ Within S w.heap.size w'.heap.size ∧ Below w.heap.size w w'
theorem postEb_is {q : EI × Bool} {X : EI} {b : Bool} (e : q = (X, b)) {w w' : World} {n : Ending} (h : PostEb q.1 q.2 w n w') : PostEb X b w n w' := by rw [e] at h; exact h
theorem postEb_eq {q p : EI × Bool} (e : q = p) {w w' : World} {n : Ending} (h : PostEb q.1 q.2 w n w') : PostEb p.1 p.2 w n w' := by rw [e] at h; exact h
theorem postEb_chg {S T : List Nat} {v : Value} {x : EI} {b : Bool} {w W : World} (o : At S (OwnE v x) W) (hd : ∀ i ∈ S, i ∉ T) (hT : ∀ i ∈ T, w.heap.size ≤ i) (l : ∀ i ∈ S, w.heap.size ≤ i) (hW : Below w.heap.size w W) :
    ∀ W', Chg T W W' → PostEb x b w (.returned (.tuple #[v, .bool b])) W' :=
  fun _ hc => ⟨v, S, rfl, o.chg hc hd, fun i hi => ⟨l i hi, Nat.lt_of_lt_of_le (o.lt i hi) hc.size⟩, below_chg hW hc hW.size hT⟩
theorem chg_set5 {r : Nat} {c0 c1 c2 c3 c4 : Value} {W : World} : Chg [r] W (((((W.setCell ⟨r, 0, none⟩ c0).setCell ⟨r, 1, none⟩ c1).setCell ⟨r, 2, none⟩ c2).setCell ⟨r, 3, none⟩ c3).setCell ⟨r, 4, none⟩ c4) := (((((Chg.refl _ _).setCell (by simp) _).setCell (by simp) _).setCell (by simp) _).setCell (by simp) _).setCell (by simp) _
theorem newEb_at {r B : Nat} {S : List Nat} {c0 c1 c2 c3 c4 : Value} {x : EI} {b : Bool} {w W : World} (o : At S (OwnE (.agg #[c0, c1, c2, c3, c4]) x) W) (l : Within S B W.heap.size) (hrB : r < B) (hr : w.heap.size ≤ r) (hW : Below w.heap.size w W) :
    PostEb x b w (.returned (.tuple #[.agg #[c0, c1, c2, c3, c4], .bool b])) (((((W.setCell ⟨r, 0, none⟩ c0).setCell ⟨r, 1, none⟩ c1).setCell ⟨r, 2, none⟩ c2).setCell ⟨r, 3, none⟩ c3).setCell ⟨r, 4, none⟩ c4) :=
  postEb_chg o (fun i hi hm => by have := l i hi; simp at hm; omega) (fun i hi => by simp at hi; omega) (fun i hi => by have := l i hi; omega) hW _ chg_set5
theorem ownE_zero (w : World) : OwnE (.agg #[.string ⟨#[]⟩, .string ⟨#[]⟩, .bool false, .slice none 0 0, .int .i64 0]) zeroE w := ⟨_, rfl, World.ownsRow_nil _ _ _ _⟩
theorem atE_zero (w : World) : At [] (OwnE (.agg #[.string ⟨#[]⟩, .string ⟨#[]⟩, .bool false, .slice none 0 0, .int .i64 0]) zeroE) w := ⟨ownE_zero _, fun _ hg => absurd hg List.not_mem_nil, fun w' _ => ownE_zero w'⟩
theorem newEb_zero {w W : World} (b : Bool) (hW : Below w.heap.size w W) : PostEb zeroE b w (.returned (.tuple #[.agg #[.string ⟨#[]⟩, .string ⟨#[]⟩, .bool false, .slice none 0 0, .int .i64 0], .bool b])) W :=
  ⟨_, [], rfl, atE_zero _, fun _ hg => absurd hg List.not_mem_nil, hW⟩
theorem below_set5 {W0 W : World} {g : Nat} {a b c d e : Value} (h : Below W0.heap.size W0 W) (hg : W0.heap.size ≤ g) : Below W0.heap.size W0 (((((W.setCell ⟨g, 0, none⟩ a).setCell ⟨g, 1, none⟩ b).setCell ⟨g, 2, none⟩ c).setCell ⟨g, 3, none⟩ d).setCell ⟨g, 4, none⟩ e) :=
  ((((h.setCell (p := ⟨g, 0, none⟩) hg _).setCell (p := ⟨g, 1, none⟩) hg _).setCell (p := ⟨g, 2, none⟩) hg _).setCell (p := ⟨g, 3, none⟩) hg _).setCell (p := ⟨g, 4, none⟩) hg _
theorem newLocV_early5 {T : TypeId} {φ : Value → World → Prop} {W0 W W1 : World} {g : Nat} {z0 z1 z2 z3 z4 c0 c1 c2 c3 c4 : Value} {S : List Nat} (hb : BoxAt g #[z0, z1, z2, z3, z4] T W) (o : At S (φ (.agg #[c0, c1, c2, c3, c4])) W) (l : Within S W1.heap.size W.heap.size) (hg : W0.heap.size ≤ g) (hgB : g < W1.heap.size) (hW : Below W0.heap.size W0 W) :
    NewLocV T φ W0 (.pointer (some ⟨g, 0, none⟩)) (((((W.setCell ⟨g, 0, none⟩ c0).setCell ⟨g, 1, none⟩ c1).setCell ⟨g, 2, none⟩ c2).setCell ⟨g, 3, none⟩ c3).setCell ⟨g, 4, none⟩ c4) :=
  have hb' : W.heap[g]? = some (.cells #[z0, z1, z2, z3, z4] T (0, 0)) := hb
  newLocV_of (by simp [BoxAt, World.setCell, Array.getElem?_modify, hb']) o l hg hgB chg_set5 hW
set_option maxHeartbeats 1000000 in
set_option maxRecDepth 100000 in
theorem eqE_cal (u v : Value) (x y : EI) (w : World) (hz : capE x) (hu : RdE w u x) (hv : RdE w v y) : Calls Tryz.prog 40 #[u, v] w (Postb (decide (x = y)) w) := by
  obtain ⟨p, rfl, hp⟩ := hu
  obtain ⟨q, rfl, hq⟩ := hv
  obtain ⟨Ap, cp, rfl⟩ := row_form hp
  obtain ⟨Aq, cq, rfl⟩ := row_form hq
  simp only [intsV_length] at hp hq ⊢
  have hb : Below w.heap.size w ((w.alloc (.cells #[.string x.1, .string x.2.1, .bool x.2.2.1.1, .slice Ap x.2.2.1.2.length cp, .int .i64 x.2.2.2] 41)).alloc (.cells #[.string y.1, .string y.2.1, .bool y.2.2.1.1, .slice Aq y.2.2.1.2.length cq, .int .i64 y.2.2.2] 41)) := below_al (below_al (Below.refl _ _) _) _
  have kx := (box_new w #[.string x.1, .string x.2.1, .bool x.2.2.1.1, .slice Ap x.2.2.1.2.length cp, .int .i64 x.2.2.2] 41).below (below_al (Below.refl _ _) (.cells #[.string y.1, .string y.2.1, .bool y.2.2.1.1, .slice Aq y.2.2.1.2.length cq, .int .i64 y.2.2.2] 41))
  have ky := box_new (w.alloc (.cells #[.string x.1, .string x.2.1, .bool x.2.2.1.1, .slice Ap x.2.2.1.2.length cp, .int .i64 x.2.2.2] 41)) #[.string y.1, .string y.2.1, .bool y.2.2.1.1, .slice Aq y.2.2.1.2.length cq, .int .i64 y.2.2.2] 41
  rw [show (w.alloc (.cells #[.string x.1, .string x.2.1, .bool x.2.2.1.1, .slice Ap x.2.2.1.2.length cp, .int .i64 x.2.2.2] 41)).heap.size = w.heap.size + 1 by simp] at ky
  have kx_c0 := kx.here.cell 0 _ rfl
  have kx_c1 := kx.here.cell 1 _ rfl
  have kx_c2 := kx.here.cell 2 _ rfl
  have kx_c3 := kx.here.cell 3 _ rfl
  have kx_c4 := kx.here.cell 4 _ rfl
  have ky_c0 := ky.here.cell 0 _ rfl
  have ky_c1 := ky.here.cell 1 _ rfl
  have ky_c2 := ky.here.cell 2 _ rfl
  have ky_c3 := ky.here.cell 3 _ rfl
  have ky_c4 := ky.here.cell 4 _ rfl
  have HE := Lib.hid (eqD_cal (.agg #[.bool x.2.2.1.1, .slice Ap x.2.2.1.2.length cp, .int .i64 x.2.2.2]) (.agg #[.bool y.2.2.1.1, .slice Aq y.2.2.1.2.length cq, .int .i64 y.2.2.2]) x.2.2 y.2.2 _ hz.2.2 (RdD.below ⟨_, rfl, hp⟩ hb) (RdD.below ⟨_, rfl, hq⟩ hb))
  have HB := Lib.hid hb
  clear kx ky hp hq hb hz
  by_cases h1 : x.1 = y.1
  · by_cases h2 : x.2.1 = y.2.1
    · have HV := Lib.hid (show decide (x = y) = decide (x.2.2 = y.2.2) from decide_eq_decide.2 ⟨fun e => by rw [e], fun e => Prod.ext h1 (Prod.ext h2 e)⟩)
      rw [← h1] at ky_c0 HE HB
      rw [← h2] at ky_c1 HE HB
      have H1 := Lib.hid h1
      have H2 := Lib.hid h2
      clear h1 h2
      go_enter Tryz.func40, Tryz.ntmps40
      rw [← H1.out, ← H2.out]
      go_wp2_with fail
      refine HE.out.mono ?_
      rintro e w1 ⟨rfl, b1⟩
      have bb1 := Lib.hid (Below.next HB.out b1)
      clear kx_c0 kx_c1 kx_c2 kx_c3 kx_c4 ky_c0 ky_c1 ky_c2 ky_c3 ky_c4 b1
      by_cases h3 : x.2.2 = y.2.2
      · rw [decide_eq_true h3] at HV ⊢
        clear h3
        go_wp2
        go_ret
        exact ⟨ret_bool HV.out.symm, bb1.out⟩
      · rw [decide_eq_false h3] at HV ⊢
        clear h3
        go_wp2
        go_ret
        exact ⟨ret_bool HV.out.symm, bb1.out⟩
    · have hne := bytes_neC h2
      have hne2 : (x.2.1.toList != y.2.1.toList) = true := by rw [bne, hne]; rfl
      have HV := Lib.hid (show decide (x = y) = false from decide_eq_false (fun e => h2 (by rw [e])))
      rw [← h1] at ky_c0 HB
      have H1 := Lib.hid h1
      clear h1 h2 HE
      go_enter Tryz.func40, Tryz.ntmps40
      rw [← H1.out]
      go_wp2
      go_ret
      exact ⟨ret_bool HV.out.symm, HB.out⟩
  · have hne := bytes_neC h1
    have hne2 : (x.1.toList != y.1.toList) = true := by rw [bne, hne]; rfl
    have HV := Lib.hid (show decide (x = y) = false from decide_eq_false (fun e => h1 (by rw [e])))
    clear h1 HE
    go_enter Tryz.func40, Tryz.ntmps40
    go_wp2
    go_ret
    exact ⟨ret_bool HV.out.symm, HB.out⟩
set_option maxHeartbeats 1000000 in
set_option maxRecDepth 100000 in
theorem szE_cal (v : Value) (x : EI) (left : Int) (w : World) (hl : capE x) (h0 : 0 ≤ left) (h1 : left ≤ 1048576) (h : RdE w v x) : Calls Tryz.prog 131 #[v, .int .i64 left] w (Postn (leftI left (szE x)) w) := by
  obtain ⟨p, rfl, hp⟩ := h
  obtain ⟨Ap, cp, rfl⟩ := row_form hp
  simp only [intsV_length] at hp ⊢
  have hb := below_al (Below.refl w.heap.size w) (.cells #[.string x.1, .string x.2.1, .bool x.2.2.1.1, .slice Ap x.2.2.1.2.length cp, .int .i64 x.2.2.2] 165)
  have kx := box_new w #[.string x.1, .string x.2.1, .bool x.2.2.1.1, .slice Ap x.2.2.1.2.length cp, .int .i64 x.2.2.2] 165
  have kx_c0 := kx.here.cell 0 _ rfl
  have kx_c1 := kx.here.cell 1 _ rfl
  have kx_c2 := kx.here.cell 2 _ rfl
  have kx_c3 := kx.here.cell 3 _ rfl
  have kx_c4 := kx.here.cell 4 _ rfl
  obtain ⟨hl1, hl2, hl3⟩ := hl
  have hd0 := szD_nonneg x.2.2
  have HSD := Lib.hid (fun (z : Int) (hz0 : 0 ≤ z) (hz1 : z ≤ 1048576) => szD_cal (.agg #[.bool x.2.2.1.1, .slice Ap x.2.2.1.2.length cp, .int .i64 x.2.2.2]) x.2.2 z _ hl3 hz0 hz1 (RdD.below ⟨_, rfl, hp⟩ hb))
  by_cases hs : left - x.1.size < 0
  · have HV := Lib.hid (show leftI left (szE x) = -1 by unfold leftI szE; rw [if_pos (by omega)])
    have hw : IntKind.i64.wrap (left - (x.1.size : Int)) = left - x.1.size := IntWalk.i64_in _ (by omega)
    have hneg : decide (left - (x.1.size : Int) < 0) = true := decide_eq_true hs
    clear hs kx HSD
    go_enter Tryz.func131, Tryz.ntmps131
    go_wp2
    go_ret
    exact ⟨ret_int HV.out.symm, hb⟩
  · obtain ⟨z0, hz0⟩ : ∃ z0 : Int, left - x.1.size = z0 := ⟨_, rfl⟩
    have hw : IntKind.i64.wrap (left - (x.1.size : Int)) = z0 := by rw [IntWalk.i64_in _ (by omega)]; exact hz0
    have hneg0 : decide (z0 < 0) = false := decide_eq_false (by omega)
    have HZ := Lib.hid (show 0 ≤ z0 ∧ z0 ≤ 1048576 by omega)
    by_cases hs2 : z0 - x.2.1.size < 0
    · have HV := Lib.hid (show leftI left (szE x) = -1 by unfold leftI szE; rw [if_pos (by omega)])
      have hw2 : IntKind.i64.wrap (z0 - (x.2.1.size : Int)) = z0 - x.2.1.size := IntWalk.i64_in _ (by omega)
      have hneg : decide (z0 - (x.2.1.size : Int) < 0) = true := decide_eq_true hs2
      clear hs hs2 hz0 kx HSD
      go_enter Tryz.func131, Tryz.ntmps131
      go_wp2
      go_ret
      exact ⟨ret_int HV.out.symm, hb⟩
    · obtain ⟨z1, hz1⟩ : ∃ z1 : Int, z0 - x.2.1.size = z1 := ⟨_, rfl⟩
      have hw2 : IntKind.i64.wrap (z0 - (x.2.1.size : Int)) = z1 := by rw [IntWalk.i64_in _ (by omega)]; exact hz1
      have hneg1 : decide (z1 < 0) = false := decide_eq_false (by omega)
      have HZ1 := Lib.hid (show 0 ≤ z1 ∧ z1 ≤ 1048576 by omega)
      have HLL := Lib.hid (show leftI left (szE x) = leftI z1 (szD x.2.2) by unfold leftI szE; rw [show left - ((x.1.size : Int) + x.2.1.size + szD x.2.2) = z1 - szD x.2.2 by omega])
      clear hs hs2 hz0 hz1
      go_enter Tryz.func131, Tryz.ntmps131
      go_wp2_with fail
      clear kx_c0 kx_c1 kx_c2 kx_c3 kx_c4 kx
      refine (HSD.out z1 HZ1.out.1 HZ1.out.2).mono ?_
      rintro e w1 ⟨rfl, b1⟩
      have bb1 := Lib.hid (Below.next hb b1)
      have hq : leftI z1 (szD x.2.2) < 0 ∧ leftI z1 (szD x.2.2) = -1 ∨ ¬ leftI z1 (szD x.2.2) < 0 := by unfold leftI; split <;> omega
      generalize leftI z1 (szD x.2.2) = z at *
      clear hp hb b1 HZ HZ1 HSD
      rcases hq with ⟨h2, h3⟩ | h2
      · have hneg : decide (z < 0) = true := decide_eq_true h2
        have H3 := Lib.hid h3
        clear h2 h3
        go_wp2
        go_ret
        exact ⟨ret_int (H3.out.symm.trans HLL.out.symm), bb1.out⟩
      · have hneg : decide (z < 0) = false := decide_eq_false h2
        clear h2
        go_wp2
        go_ret
        exact ⟨ret_int HLL.out.symm, bb1.out⟩
set_option maxHeartbeats 2000000 in
set_option maxRecDepth 100000 in
theorem toE_new (v : Value) (x : EI) (w : World) (hz : szE x ≤ 1048576) (h : RdE w v x) : Calls Tryz.prog 133 #[v] w (NewV (fun u => OwnE u x) w) := by
  have hl : szD x.2.2 ≤ 1048576 := by have := szD_nonneg x.2.2; unfold szE at hz; omega
  obtain ⟨p, rfl, hp⟩ := h
  obtain ⟨Ap, cp, rfl⟩ := row_form hp
  simp only [intsV_length] at hp ⊢
  have h3 := alloc3 w (.cells #[.string x.1, .string x.2.1, .bool x.2.2.1.1, .slice Ap x.2.2.1.2.length cp, .int .i64 x.2.2.2] 165) (.cells #[.string ⟨#[]⟩, .string ⟨#[]⟩, .bool false, .slice none 0 0, .int .i64 0] 41) (.cells #[.string x.1, .string x.2.1, .bool false, .slice none 0 0, .int .i64 0] 41)
  have hb3 := below3 w (.cells #[.string x.1, .string x.2.1, .bool x.2.2.1.1, .slice Ap x.2.2.1.2.length cp, .int .i64 x.2.2.2] 165) (.cells #[.string ⟨#[]⟩, .string ⟨#[]⟩, .bool false, .slice none 0 0, .int .i64 0] 41) (.cells #[.string x.1, .string x.2.1, .bool false, .slice none 0 0, .int .i64 0] 41)
  obtain ⟨W0, hW0⟩ : ∃ W0, W0 = (((w.alloc (.cells #[.string x.1, .string x.2.1, .bool x.2.2.1.1, .slice Ap x.2.2.1.2.length cp, .int .i64 x.2.2.2] 165)).alloc (.cells #[.string ⟨#[]⟩, .string ⟨#[]⟩, .bool false, .slice none 0 0, .int .i64 0] 41)).alloc (.cells #[.string x.1, .string x.2.1, .bool false, .slice none 0 0, .int .i64 0] 41)) := ⟨_, rfl⟩
  rw [← hW0] at h3 hb3
  have kb : At [w.heap.size] (BoxAt w.heap.size #[.string x.1, .string x.2.1, .bool x.2.2.1.1, .slice Ap x.2.2.1.2.length cp, .int .i64 x.2.2.2] 165) W0 := box_at h3.1
  have kr : At [w.heap.size + 1] (BoxAt (w.heap.size + 1) #[.string ⟨#[]⟩, .string ⟨#[]⟩, .bool false, .slice none 0 0, .int .i64 0] 41) W0 := box_at h3.2.1
  have ko : At [w.heap.size + 1 + 1] (BoxAt (w.heap.size + 1 + 1) #[.string x.1, .string x.2.1, .bool false, .slice none 0 0, .int .i64 0] 41) W0 := box_at h3.2.2.1
  have hz0 : W0.heap.size = w.heap.size + 3 := h3.2.2.2
  have HW := Lib.hid hW0
  clear h3 hW0
  have kb_c0 := kb.here.cell 0 _ rfl
  have kb_c1 := kb.here.cell 1 _ rfl
  have kb_c2 := kb.here.cell 2 _ rfl
  have kb_c3 := kb.here.cell 3 _ rfl
  have kb_c4 := kb.here.cell 4 _ rfl
  go_enter Tryz.func133, Tryz.ntmps133
  go_wp2_with fail
  rw [← HW.out]
  refine (toD_new (.agg #[.bool x.2.2.1.1, .slice Ap x.2.2.1.2.length cp, .int .i64 x.2.2.2]) x.2.2 _ hl (RdD.below ⟨_, rfl, hp⟩ hb3)).mono ?_
  rintro e w1 ⟨u, Su, rfl, o1, l1, b1⟩
  obtain ⟨Au, cu, rfl⟩ := ownD_form o1.here
  have bb1 := Below.next hb3 b1
  replace kb := kb.below b1
  replace kr := kr.below b1
  replace ko := ko.below b1
  have HR := Lib.hid (newV_chgM (φ := fun u => OwnE u x) (v := .agg #[.string x.1, .string x.2.1, .bool x.2.2.1.1, .slice Au x.2.2.1.2.length cu, .int .i64 x.2.2.2]) (T := [w.heap.size + 1, w.heap.size + 1 + 1]) (o1.imp fun _ h => (OwnE.mk (ownD_open h) : OwnE _ x _)) (fun i hi hm => by have := (l1 i hi).1; simp at hm; omega) (fun i hi => by simp at hi; omega) (fun i hi => by have := (l1 i hi).1; omega) bb1)
  have ko_c0 := ko.here.cell 0 _ rfl
  have ko_c1 := ko.here.cell 1 _ rfl
  have ko_c2 := ko.here.cell 2 _ rfl
  have ko_c3 := ko.here.cell 3 _ rfl
  have ko_c4 := ko.here.cell 4 _ rfl
  have ko_f0 := Lib.frozen_of_heap ko.here 0
  have ko_f1 := Lib.frozen_of_heap ko.here 1
  have ko_f2 := Lib.frozen_of_heap ko.here 2
  have ko_f3 := Lib.frozen_of_heap ko.here 3
  have ko_f4 := Lib.frozen_of_heap ko.here 4
  have kr_c0 := kr.here.cell 0 _ rfl
  have kr_c1 := kr.here.cell 1 _ rfl
  have kr_c2 := kr.here.cell 2 _ rfl
  have kr_c3 := kr.here.cell 3 _ rfl
  have kr_c4 := kr.here.cell 4 _ rfl
  have kr_f0 := Lib.frozen_of_heap kr.here 0
  have kr_f1 := Lib.frozen_of_heap kr.here 1
  have kr_f2 := Lib.frozen_of_heap kr.here 2
  have kr_f3 := Lib.frozen_of_heap kr.here 3
  have kr_f4 := Lib.frozen_of_heap kr.here 4
  clear kb kr ko o1 b1 bb1 hp kb_c0 kb_c1 kb_c2 kb_c3 kb_c4
  go_wp2
  refine bodyPost_ret (v := .agg #[.string x.1, .string x.2.1, .bool x.2.2.1.1, .slice Au x.2.2.1.2.length cu, .int .i64 x.2.2.2]) (by simp [results, Tryz.results133, go_sem, kr_c0, kr_c1, kr_c2, kr_c3, kr_c4]) rfl ?_
  refine HR.out _ ?_
  repeat (first | with_reducible exact Chg.refl _ _ | with_reducible refine Chg.setCell ?_ (by simp) _)
set_option maxHeartbeats 1000000 in
set_option maxRecDepth 100000 in
theorem markE_cal (v : Value) (x : EI) (S : List Nat) (m : Int) (w : World) (hm : m + mkE x ≤ 9223372036854775807) (hm0 : 0 ≤ m) (h : At S (OwnE v x) w) :
    Calls Tryz.prog 41 #[v, .int .i64 m] w fun e w' => e = .returned (.int .i64 (m + mkE x)) ∧ At S (MarkE v x m) w' ∧ Chg S w w' := by
  obtain ⟨A, c, rfl⟩ := ownE_form h.here
  have hbx := below_al (Below.refl w.heap.size w) (.cells #[.string x.1, .string x.2.1, .bool x.2.2.1.1, .slice A x.2.2.1.2.length c, .int .i64 x.2.2.2] 41)
  have kx := box_new w #[.string x.1, .string x.2.1, .bool x.2.2.1.1, .slice A x.2.2.1.2.length c, .int .i64 x.2.2.2] 41
  have ax := (h.below hbx).imp (fun _ h => (OwnD.mk (ownE_open h) : OwnD (.agg #[.bool x.2.2.1.1, .slice A x.2.2.1.2.length c, .int .i64 x.2.2.2]) x.2.2 _))
  have kx_c0 := kx.here.cell 0 _ rfl
  have kx_c1 := kx.here.cell 1 _ rfl
  have kx_c2 := kx.here.cell 2 _ rfl
  have kx_c3 := kx.here.cell 3 _ rfl
  have kx_c4 := kx.here.cell 4 _ rfl
  have HZ := Lib.hid (show mkE x = szD x.2.2 from rfl)
  have HBX := Lib.hid hbx
  clear h kx
  go_enter Tryz.func41, Tryz.ntmps41
  go_wp2_with fail
  clear kx_c0 kx_c1 kx_c2 kx_c3 kx_c4
  refine (markD_cal _ x.2.2 S m _ hm hm0 ax).mono ?_
  rintro e w1 ⟨rfl, mu, c1⟩
  have hall := Lib.hid (mu.imp (fun _ h => (show MarkE (.agg #[.string x.1, .string x.2.1, .bool x.2.2.1.1, .slice A x.2.2.1.2.length c, .int .i64 x.2.2.2]) x m _ from by
    obtain ⟨u', e1, hu'⟩ := h
    injection e1 with e1
    have e2 : u' = .slice A x.2.2.1.2.length c := by simpa using e1.symm
    rw [e2] at hu'
    exact ⟨_, rfl, hu'⟩)))
  have hchg := Lib.hid ((Chg.of_below HBX.out).trans c1 : Chg S w w1)
  clear mu c1
  go_wp2
  go_ret
  exact ⟨ret_int (by rw [HZ.out]), hall.out, hchg.out⟩
set_option maxHeartbeats 1000000 in
set_option maxRecDepth 100000 in
theorem heldE_cal (v : Value) (x : EI) (m : Int) (w : World) (hm : m + mkE x ≤ 9223372036854775807) (hm0 : 0 ≤ m) (h : MarkE v x m w) : Calls Tryz.prog 42 #[v, .int .i64 m] w (Postn (m + mkE x) w) := by
  obtain ⟨u, rfl, ou⟩ := h
  obtain ⟨A, c, rfl⟩ := own_len ou
  have hs0 := szD_nonneg x.2.2
  have HZ := Lib.hid (show mkE x = szD x.2.2 from rfl)
  rw [HZ.out] at hm
  have hbx := below_al (Below.refl w.heap.size w) (.cells #[.string x.1, .string x.2.1, .bool x.2.2.1.1, .slice A x.2.2.1.2.length c, .int .i64 x.2.2.2] 41)
  have kx := box_new w #[.string x.1, .string x.2.1, .bool x.2.2.1.1, .slice A x.2.2.1.2.length c, .int .i64 x.2.2.2] 41
  have ou1 : MarkD (.agg #[.bool x.2.2.1.1, .slice A x.2.2.1.2.length c, .int .i64 x.2.2.2]) x.2.2 m _ := ⟨_, rfl, own_below ou hbx⟩
  have kx_c0 := kx.here.cell 0 _ rfl
  have kx_c1 := kx.here.cell 1 _ rfl
  have kx_c2 := kx.here.cell 2 _ rfl
  have kx_c3 := kx.here.cell 3 _ rfl
  have kx_c4 := kx.here.cell 4 _ rfl
  clear ou kx
  go_enter Tryz.func42, Tryz.ntmps42
  go_wp2_with fail
  clear kx_c0 kx_c1 kx_c2 kx_c3 kx_c4
  refine (heldD_cal _ x.2.2 m _ (by omega) hm0 ou1).mono ?_
  rintro e w1 ⟨rfl, b1⟩
  have bb1 := Below.next hbx b1
  have hn1 : decide (m + szD x.2.2 < 0) = false := decide_eq_false (by omega)
  clear ou1
  go_wp2
  go_ret
  exact ⟨ret_int (by rw [HZ.out]), bb1⟩
end Go.Proofs.YtbpfabicampdkaaGreatDoor

namespace Go.Proofs.YtbpfabicampdkaaGreatDoor
open Go.RowKit

/-- the decimal digits of k ahead of acc, at most f of them -/
def digGo : Nat → Nat → List UInt8 → List UInt8
  | 0, _, acc => acc
  | f + 1, k, acc => if k = 0 then acc else digGo f (k / 10) ((48 + UInt8.ofNat (k % 10)) :: acc)
def markB (k : Int) : ByteArray := if k ≤ 0 then ⟨#[109, 48]⟩ else ⟨(109 :: digGo 19 k.toNat []).toArray⟩

theorem digGo_step {f m : Nat} {acc : List UInt8} {D : List UInt8} (h : digGo f m acc = D ∧ m < 10 ^ f) (hm : 0 < m) : ∃ g, f = g + 1 ∧ digGo g (m / 10) ((48 + UInt8.ofNat (m % 10)) :: acc) = D ∧ m / 10 < 10 ^ g := by
  cases f with
  | zero => have := h.2; simp at this; omega
  | succ g =>
    refine ⟨g, rfl, ?_, ?_⟩
    · rw [← h.1, digGo, if_neg (by omega)]
    · have := h.2; rw [Nat.pow_succ] at this; omega
theorem digGo_zero (f : Nat) (acc : List UInt8) : digGo f 0 acc = acc := by cases f <;> simp [digGo]
theorem push_one (c : UInt8) (acc : List UInt8) : (⟨#[c]⟩ : ByteArray) ++ ⟨acc.toArray⟩ = ⟨(c :: acc).toArray⟩ := by
  apply ByteArray.ext
  simp
theorem mark_done {n m f : Nat} {acc : List UInt8} (h0 : 0 < (n : Int)) (hz : ¬ 0 < m) (h : digGo f m acc = digGo 19 n [] ∧ m < 10 ^ f) : (⟨#[109]⟩ : ByteArray) ++ ⟨acc.toArray⟩ = markB n := by
  obtain rfl : m = 0 := by omega
  rw [markB, if_neg (by omega), push_one, Int.toNat_natCast, ← h.1, digGo_zero]

/-- string([]byte{c}) -/
theorem conv_byte (W : World) (c : Int) : (convert 22 9 (.slice (some ⟨W.heap.size, 0, none⟩) 1 1)).run Tryz.prog (W.alloc (.cells #[.int .u8 c] 5)) = .ok (.string ⟨#[UInt8.ofNat c.toNat]⟩) (W.alloc (.cells #[.int .u8 c] 5)) := by
  rw [run_convert_bytes_string _ 22 9 5 _ _ _ Tryz.underlying22 Tryz.underlying5 Tryz.underlying9]
  rw [run_bytesToString _ _ 1 1 [c] ?_]
  · rfl
  · simp [loadCells, go_sem]

set_option maxHeartbeats 400000 in
set_option maxRecDepth 100000 in
theorem markText_any (k : Int) (w : World) (hk : k ≤ 9223372036854775807) :
    Calls Tryz.prog 88 #[.int .i64 k] w fun e w' => e = .returned (.string (markB k)) ∧ Below w.heap.size w w' := by
  by_cases h0 : k ≤ 0
  · go_enter Tryz.func88, Tryz.ntmps88
    go_wp2
    go_ret
    exact ⟨ret_str (by rw [markB, if_pos h0]), Below.refl _ _⟩
  · obtain ⟨n, rfl⟩ := Int.eq_ofNat_of_zero_le (show 0 ≤ k by omega)
    have hcv := conv_byte
    go_enter Tryz.func88, Tryz.ntmps88
    go_wp2
    go_loopw [0, 3] (fun a o wr => ∃ (m f : Nat) (acc : List UInt8), m ≤ 9223372036854775807 ∧ acc.length + f ≤ 19 ∧ a = .int .i64 m ∧ o = .string ⟨acc.toArray⟩ ∧ Hid (digGo f m acc = digGo 19 n [] ∧ m < 10 ^ f) ∧ Below w.heap.size w wr) (fun a _ _ => (intOf a).toNat)
    case atStart => exact ⟨n, 19, [], by omega, by simp, rfl, rfl, Lib.hid ⟨rfl, by omega⟩, Below.refl _ _⟩
    case round =>
      obtain ⟨m, f, acc, hm, hf, rfl, rfl, HD, hb⟩ := hrel
      by_cases hz : 0 < m
      · obtain ⟨g, rfl, h1, h2⟩ := digGo_step HD.out hz
        have H1 := Lib.hid (And.intro h1 h2)
        clear h1 h2 HD
        go_wp2
        go_roundw
        case rel => exact ⟨m / 10, g, _, by omega, by simp; omega, by go_num, by rw [push_one], H1, hb.alloc hb.size _⟩
        case measure => simp [intOf]; omega
      · go_wp2
        go_ret
        exact ⟨ret_str (mark_done (by omega) hz HD.out), hb⟩
end Go.Proofs.YtbpfabicampdkaaGreatDoor

namespace Go.Proofs.YtbpfabicampdkaaGreatDoor
open Go.RowKit

/-- a slice that reads as these, an element 5 cells -/
def RdEL (w : World) (v : Value) (l : List EI) : Prop :=
  ∃ A c, v = .slice A l.length c ∧ ∀ (j : Nat) x, l[j]? = some x → ∃ a u, A = some a ∧ a.block < w.heap.size ∧ w.cell? (a.add (j * 5)) = some (.string x.1) ∧ w.cell? ⟨(a.add (j * 5)).block, (a.add (j * 5)).off + 1, none⟩ = some (.string x.2.1) ∧ w.cell? ⟨(a.add (j * 5)).block, (a.add (j * 5)).off + 2, none⟩ = some (.bool x.2.2.1.1) ∧ w.cell? ⟨(a.add (j * 5)).block, (a.add (j * 5)).off + 3, none⟩ = some u ∧ w.cell? ⟨(a.add (j * 5)).block, (a.add (j * 5)).off + 4, none⟩ = some (.int .i64 x.2.2.2) ∧ Row w 0 w.heap.size u (intsV x.2.2.1.2)
theorem cell_keep5 {w w' : World} {a : Addr} (hb : Below w.heap.size w w') (h : a.block < w.heap.size) (j i : Nat) : w'.cell? ⟨(a.add (j * 5)).block, (a.add (j * 5)).off + i, none⟩ = w.cell? ⟨(a.add (j * 5)).block, (a.add (j * 5)).off + i, none⟩ :=
  hb.cell (by show (a.add (j * 5)).block < _; rw [block_add]; exact h)
theorem cell_keep5' {w w' : World} {a : Addr} (hb : Below w.heap.size w w') (h : a.block < w.heap.size) (j : Nat) : w'.cell? (a.add (j * 5)) = w.cell? (a.add (j * 5)) := hb.cell (by rw [block_add]; exact h)
theorem RdEL.below {w w' : World} {v : Value} {l : List EI} (h : RdEL w v l) (hb : Below w.heap.size w w') : RdEL w' v l := by
  obtain ⟨A, c, rfl, h⟩ := h
  refine ⟨A, c, rfl, fun j x hj => ?_⟩
  obtain ⟨a, u, rfl, h1, h2, h3, h4, h5, h6, hr⟩ := h j x hj
  exact ⟨a, u, rfl, Nat.lt_of_lt_of_le h1 hb.size, (cell_keep5' hb h1 j).trans h2, (cell_keep5 hb h1 j 1).trans h3, (cell_keep5 hb h1 j 2).trans h4, (cell_keep5 hb h1 j 3).trans h5, (cell_keep5 hb h1 j 4).trans h6, (hr.below hb (Nat.le_refl _)).wide (Nat.le_refl _) hb.size⟩
/-- how much there is to read -/
def szEL : List EI → Int
  | [] => 0
  | x :: l => szE x + szEL l
theorem szEL_nonneg (l : List EI) : 0 ≤ szEL l := by
  induction l with
  | nil => exact Int.le_refl _
  | cons x l ih => show 0 ≤ szE x + szEL l; have := szE_nonneg x; omega
theorem szEL_append (l r : List EI) : szEL (l ++ r) = szEL l + szEL r := by
  induction l with
  | nil => show szEL r = 0 + szEL r; omega
  | cons x l ih => show szE x + szEL (l ++ r) = szE x + szEL l + szEL r; rw [ih]; omega
theorem szEL_take {l : List EI} {j : Nat} {x : EI} (h : l[j]? = some x) : szEL (l.take (j + 1)) = szEL (l.take j) + szE x := by
  have hj := (List.getElem?_eq_some_iff.1 h).1
  have e : l[j] = x := (List.getElem?_eq_some_iff.1 h).2
  rw [List.take_succ_eq_append_getElem hj, szEL_append, e]
  show _ + (szE x + 0) = _
  omega
theorem szEL_take_le (l : List EI) (j : Nat) : szEL (l.take j) ≤ szEL l := by
  have := szEL_append (l.take j) (l.drop j)
  rw [List.take_append_drop] at this
  have := szEL_nonneg (l.drop j)
  omega
theorem szEL_mem {l : List EI} {x : EI} (h : x ∈ l) : szE x ≤ szEL l := by
  induction l with
  | nil => exact absurd h List.not_mem_nil
  | cons y l ih =>
    show szE x ≤ szE y + szEL l
    have h1 := szE_nonneg y
    have h2 := szEL_nonneg l
    rcases List.mem_cons.1 h with rfl | h
    · omega
    · have := ih h
      omega
set_option maxHeartbeats 2000000 in
set_option maxRecDepth 100000 in
theorem szRateS_any (v : Value) (l : List EI) (left : Int) (w : World) (hl : l.length ≤ 9223372036854775807) (hx : ∀ x ∈ l, capE x) (h0 : 0 ≤ left) (h1 : left ≤ 1048576) (h : RdEL w v l) :
    Calls Tryz.prog 72 #[v, .int .i64 left] w fun e w' => e = .returned (.int .i64 (leftI left (l.length + szEL l))) ∧ Below w.heap.size w w' := by
  obtain ⟨A, c, rfl, hc⟩ := h
  by_cases hn : left - l.length < 0
  · have hp := szEL_nonneg l
    have HV := Lib.hid (show leftI left (l.length + szEL l) = -1 by unfold leftI; rw [if_pos (by omega)])
    clear hp
    go_enter Tryz.func72, Tryz.ntmps72
    go_wp2
    go_ret
    exact ⟨ret_int HV.out.symm, Below.refl _ _⟩
  · go_enter Tryz.func72, Tryz.ntmps72
    go_wp2
    go_loopw [1, 5] (fun a i wr => ∃ (j : Nat) (z : Int), j ≤ l.length ∧ i = .int .i64 j ∧ a = .int .i64 z ∧ 0 ≤ z ∧ z ≤ 1048576 ∧ Hid (z = left - l.length - szEL (l.take j)) ∧ Below w.heap.size w wr) (fun _ i _ => l.length - (intOf i).toNat)
    case atStart => exact ⟨0, left - l.length, by omega, rfl, rfl, by omega, by omega, Lib.hid (by rw [List.take_zero]; show _ = _ - (0 : Int); omega), Below.refl _ _⟩
    case round =>
      obtain ⟨j, z, hj, rfl, rfl, hz0, hz1, HZ, hb⟩ := hrel
      by_cases hlt : j < l.length
      · obtain ⟨x, hxj⟩ : ∃ x, l[j]? = some x := ⟨_, List.getElem?_eq_getElem hlt⟩
        obtain ⟨a, u, rfl, ha, hc0, hc1, hc2, hc3, hc4, hr⟩ := hc j x hxj
        have hxl := hx x (List.mem_of_getElem? hxj)
        have k0 := (cell_keep5' hb ha j).trans hc0
        have k1 := (cell_keep5 hb ha j 1).trans hc1
        have k2 := (cell_keep5 hb ha j 2).trans hc2
        have k3 := (cell_keep5 hb ha j 3).trans hc3
        have k4 := (cell_keep5 hb ha j 4).trans hc4
        obtain ⟨A1, c1, rfl⟩ := row_form hr
        rw [intsV_length] at hc3 k3 hr
        go_wp2_with fail
        refine (szE_cal _ x z _ hxl hz0 hz1 (RdE.below ⟨_, rfl, hr⟩ hb)).mono ?_
        rintro e w1 ⟨rfl, b1⟩
        have bb1 := Below.next hb b1
        have hs0 := szE_nonneg x
        have HT := Lib.hid (szEL_take hxj)
        have HTL := Lib.hid (szEL_take_le l (j + 1))
        clear hc0 hc1 hc2 hc3 hc4 k0 k1 k2 k3 k4 hc hxl hr
        by_cases hv : z - szE x < 0
        · have HV := Lib.hid (show leftI left (l.length + szEL l) = -1 by
            have h1 := HT.out
            have h2 := HTL.out
            have h3 := HZ.out
            unfold leftI; rw [if_pos (by omega)])
          rw [show leftI z (szE x) = -1 by unfold leftI; rw [if_pos hv]]
          clear hv hs0
          go_wp2
          go_ret
          exact ⟨ret_int HV.out.symm, bb1⟩
        · rw [show leftI z (szE x) = z - szE x by unfold leftI; rw [if_neg hv]]
          have hnb : decide (z - szE x < 0) = false := decide_eq_false hv
          obtain ⟨z1, hz1e⟩ : ∃ z1, z1 = z - szE x := ⟨_, rfl⟩
          rw [← hz1e] at hnb ⊢
          have HE := Lib.hid (show z1 = left - l.length - szEL (l.take (j + 1)) ∧ 0 ≤ z1 ∧ z1 ≤ 1048576 by
            have h1 := HT.out
            have h3 := HZ.out
            omega)
          clear hv hs0 hz1e
          go_wp2
          go_roundw
          case rel => exact ⟨j + 1, z1, by omega, by go_num, rfl, HE.out.2.1, HE.out.2.2, Lib.hid HE.out.1, bb1⟩
          case measure => simp [intOf]; omega
      · obtain rfl : j = l.length := by omega
        have HV := Lib.hid (show leftI left (l.length + szEL l) = z by
          have h3 := HZ.out
          rw [List.take_length] at h3
          unfold leftI; rw [if_neg (by omega)]; omega)
        clear hc
        go_wp2
        go_ret
        exact ⟨ret_int HV.out.symm, hb⟩
theorem add_ownE (g m : Nat) : (⟨g, 0, none⟩ : Addr).add m = ⟨g, m, none⟩ := by
  unfold Addr.add
  split
  · rename_i h; rw [h]
  · simp
/-- the cells of such a slice -/
def flatE : List (ByteArray × ByteArray × Bool × Value × Int) → List Value
  | [] => []
  | p :: r => .string p.1 :: .string p.2.1 :: .bool p.2.2.1 :: p.2.2.2.1 :: .int .i64 p.2.2.2.2 :: flatE r
theorem flatE_length (e : List (ByteArray × ByteArray × Bool × Value × Int)) : (flatE e).length = e.length * 5 := by
  induction e with
  | nil => rfl
  | cons p r ih => show (flatE r).length + 1 + 1 + 1 + 1 + 1 = (r.length + 1) * 5; omega
theorem flatE_append (e f : List (ByteArray × ByteArray × Bool × Value × Int)) : flatE (e ++ f) = flatE e ++ flatE f := by
  induction e with
  | nil => rfl
  | cons p r ih => show _ :: _ :: _ :: _ :: _ :: flatE (r ++ f) = _; rw [ih]; rfl
theorem flatE_get {e : List (ByteArray × ByteArray × Bool × Value × Int)} {j : Nat} {p : ByteArray × ByteArray × Bool × Value × Int} (h : e[j]? = some p) : (flatE e)[j * 5]? = some (.string p.1) ∧ (flatE e)[j * 5 + 1]? = some (.string p.2.1) ∧ (flatE e)[j * 5 + 2]? = some (.bool p.2.2.1) ∧ (flatE e)[j * 5 + 3]? = some (p.2.2.2.1) ∧ (flatE e)[j * 5 + 4]? = some (.int .i64 p.2.2.2.2) := by
  induction e generalizing j with
  | nil => simp at h
  | cons q r ih =>
    cases j with
    | zero =>
      have : q = p := by simpa using h
      subst this
      exact ⟨rfl, rfl, rfl, rfl, rfl⟩
    | succ j =>
      have := ih (j := j) (by simpa using h)
      rw [show (j + 1) * 5 = j * 5 + 1 + 1 + 1 + 1 + 1 by omega]
      exact this
theorem set_cellsE (xs : List Value) (k : Nat) (v0 v1 v2 v3 v4 : Value) (h : k * 5 + 4 < xs.length) : (((((xs.set (k * 5) v0).set (k * 5 + 1) v1).set (k * 5 + 2) v2).set (k * 5 + 3) v3).set (k * 5 + 4) v4).take ((k + 1) * 5) = xs.take (k * 5) ++ [v0, v1, v2, v3, v4] := by
  rw [show (k + 1) * 5 = k * 5 + 1 + 1 + 1 + 1 + 1 by omega, List.take_succ_eq_append_getElem (by simp; omega), List.take_succ_eq_append_getElem (by simp; omega), List.take_succ_eq_append_getElem (by simp; omega), List.take_succ_eq_append_getElem (by simp; omega), List.take_succ_eq_append_getElem (by simp; omega),
    List.take_set_of_le (by omega), List.take_set_of_le (by omega), List.take_set_of_le (by omega), List.take_set_of_le (by omega), List.take_set_of_le (by omega), List.append_assoc, List.append_assoc, List.append_assoc, List.append_assoc]
  simp
/-- the limbs of these, each on blocks of its own, between lo and hi -/
def OwnEG (w : World) : Nat → List EI → List (ByteArray × ByteArray × Bool × Value × Int) → Nat → Prop
  | lo, [], [], hi => lo ≤ hi
  | lo, x :: l, p :: e, hi => ∃ mid, lo ≤ mid ∧ p.1 = x.1 ∧ p.2.1 = x.2.1 ∧ p.2.2.1 = x.2.2.1.1 ∧ p.2.2.2.2 = x.2.2.2 ∧ w.ownsRow lo 3 1 p.2.2.2.1 x.2.2.1.2.length (intsV x.2.2.1.2) ∧ (∀ b, p.2.2.2.1.ownBlock = some b → b < mid) ∧ OwnEG w mid l e hi
  | _, _, _, _ => False
theorem OwnEG.le {w : World} {lo hi : Nat} {l : List EI} {e : List (ByteArray × ByteArray × Bool × Value × Int)} (h : OwnEG w lo l e hi) : lo ≤ hi := by
  induction l generalizing lo e with
  | nil => cases e with | nil => exact h | cons _ _ => exact h.elim
  | cons x l ih => cases e with | nil => exact h.elim | cons p e => obtain ⟨mid, h1, _, _, _, _, _, _, h2⟩ := h; exact Nat.le_trans h1 (ih h2)
theorem OwnEG.length {w : World} {lo hi : Nat} {l : List EI} {e : List (ByteArray × ByteArray × Bool × Value × Int)} (h : OwnEG w lo l e hi) : e.length = l.length := by
  induction l generalizing lo e with
  | nil => cases e with | nil => rfl | cons _ _ => exact h.elim
  | cons x l ih => cases e with | nil => exact h.elim | cons p e => obtain ⟨mid, _, _, _, _, _, _, _, h2⟩ := h; simp [ih h2]
theorem OwnEG.stays {w w' : World} {lo hi : Nat} {l : List EI} {e : List (ByteArray × ByteArray × Bool × Value × Int)} (h : OwnEG w lo l e hi) (hk : ∀ i, lo ≤ i → i < hi → w'.heap[i]? = w.heap[i]?) : OwnEG w' lo l e hi := by
  induction l generalizing lo e with
  | nil => cases e with | nil => exact h | cons _ _ => exact h.elim
  | cons x l ih =>
    cases e with
    | nil => exact h.elim
    | cons p e =>
      obtain ⟨mid, h1, e0, e1, e2, e4, h3, h4, h5⟩ := h
      have hle := h5.le
      exact ⟨mid, h1, e0, e1, e2, e4, own_stays h3 fun i hi => hk i (own_lt h3 hi).1 (Nat.lt_of_lt_of_le (h4 i hi) hle), h4, ih h5 fun i hi hi2 => hk i (by omega) hi2⟩
theorem OwnEG.wide {w : World} {lo hi hi' : Nat} {l : List EI} {e : List (ByteArray × ByteArray × Bool × Value × Int)} (h : OwnEG w lo l e hi) (hh : hi ≤ hi') : OwnEG w lo l e hi' := by
  induction l generalizing lo e with
  | nil => cases e with | nil => exact Nat.le_trans h hh | cons _ _ => exact h.elim
  | cons x l ih => cases e with | nil => exact h.elim | cons p e => obtain ⟨mid, h1, e0, e1, e2, e4, h3, h4, h5⟩ := h; exact ⟨mid, h1, e0, e1, e2, e4, h3, h4, ih h5⟩
theorem OwnEG.snoc {w : World} {lo mid hi : Nat} {l : List EI} {e : List (ByteArray × ByteArray × Bool × Value × Int)} {x : EI} {u : Value} (h : OwnEG w lo l e mid) (o : w.ownsRow mid 3 1 u x.2.2.1.2.length (intsV x.2.2.1.2)) (hu : ∀ b, u.ownBlock = some b → b < hi) (hh : mid ≤ hi) : OwnEG w lo (l ++ [x]) (e ++ [(x.1, x.2.1, x.2.2.1.1, u, x.2.2.2)]) hi := by
  induction l generalizing lo e with
  | nil =>
    cases e with
    | nil =>
      have hm : lo ≤ mid := h
      exact ⟨hi, Nat.le_trans hm hh, rfl, rfl, rfl, rfl, own_low o hm, hu, Nat.le_refl _⟩
    | cons _ _ => exact h.elim
  | cons y l ih => cases e with | nil => exact h.elim | cons p e => obtain ⟨m, h1, e0, e1, e2, e4, h3, h4, h5⟩ := h; exact ⟨m, h1, e0, e1, e2, e4, h3, h4, ih h5⟩
theorem OwnEG.at_ {w : World} {lo hi : Nat} {l : List EI} {e : List (ByteArray × ByteArray × Bool × Value × Int)} (h : OwnEG w lo l e hi) {j : Nat} {x : EI} (hx : l[j]? = some x) : ∃ u, e[j]? = some (x.1, x.2.1, x.2.2.1.1, u, x.2.2.2) ∧ OwnI u x.2.2.1.2 w := by
  induction l generalizing lo e j with
  | nil => simp at hx
  | cons y l ih =>
    cases e with
    | nil => exact h.elim
    | cons p e =>
      obtain ⟨m, h1, e0, e1, e2, e4, h3, h4, h5⟩ := h
      cases j with
      | zero =>
        have : y = x := by simpa using hx
        subst this
        exact ⟨p.2.2.2.1, by rw [← e0, ← e1, ← e2, ← e4]; rfl, own_zero h3⟩
      | succ j => exact ih h5 (by simpa using hx)
/-- such a slice, of the call's own: its cells and limbs lie between lo and hi -/
def OwnEL (v : Value) (l : List EI) (lo hi : Nat) (w : World) : Prop :=
  ∃ g e, v = .slice (some ⟨g, 0, none⟩) l.length l.length ∧ lo ≤ g ∧ g < hi ∧ hi ≤ w.heap.size ∧ w.ownsRow lo 41 5 v l.length (flatE e) ∧ OwnEG w (g + 1) l e hi
theorem OwnEL.stays {v : Value} {l : List EI} {lo hi : Nat} {w w' : World} (h : OwnEL v l lo hi w) (hk : ∀ i, lo ≤ i → i < hi → w'.heap[i]? = w.heap[i]?) (hz : w.heap.size ≤ w'.heap.size) : OwnEL v l lo hi w' := by
  obtain ⟨g, e, rfl, h1, h2, h3, h4, h5⟩ := h
  exact ⟨g, e, rfl, h1, h2, Nat.le_trans h3 hz, own_stays h4 fun i hi => by cases hi; exact hk g h1 h2, h5.stays fun i hi hi2 => hk i (by omega) hi2⟩
theorem OwnEL.below {v : Value} {l : List EI} {lo hi : Nat} {w w' : World} (h : OwnEL v l lo hi w) (hb : Below w.heap.size w w') : OwnEL v l lo hi w' := by
  have hh := h
  obtain ⟨_, _, _, _, _, h3, _, _⟩ := hh
  exact h.stays (fun i _ hi => hb.block i (by omega)) hb.size
theorem OwnEL.rd {v : Value} {l : List EI} {lo hi : Nat} {w : World} (h : OwnEL v l lo hi w) : RdEL w v l := by
  obtain ⟨g, e, rfl, h1, h2, h3, h4, h5⟩ := h
  refine ⟨_, _, rfl, fun j x hj => ?_⟩
  have hjl := (List.getElem?_eq_some_iff.1 hj).1
  obtain ⟨u, he, ho⟩ := h5.at_ hj
  have hf := flatE_get he
  refine ⟨⟨g, 0, none⟩, u, rfl, by show g < _; omega, ?_, ?_, ?_, ?_, ?_, ho.row⟩
  · have := h4.cellAt (j * 5) (by omega)
    rw [hf.1] at this
    rw [add_ownE]
    exact this
  · have := h4.cellAt (j * 5 + 1) (by omega)
    rw [hf.2.1] at this
    rw [add_ownE]
    exact this
  · have := h4.cellAt (j * 5 + 2) (by omega)
    rw [hf.2.2.1] at this
    rw [add_ownE]
    exact this
  · have := h4.cellAt (j * 5 + 3) (by omega)
    rw [hf.2.2.2.1] at this
    rw [add_ownE]
    exact this
  · have := h4.cellAt (j * 5 + 4) (by omega)
    rw [hf.2.2.2.2] at this
    rw [add_ownE]
    exact this
theorem own_highE {w : World} {base B n size : Nat} {e : TypeId} {v : Value} {xs : List Value} (h : w.ownsRow base e size v n xs) (hb : ∀ g, v.ownBlock = some g → B ≤ g) : w.ownsRow B e size v n xs := by
  obtain ⟨hl, h | ⟨g, cap, cur, rfl, _, r⟩⟩ := h
  · exact ⟨hl, .inl h⟩
  · exact ⟨hl, .inr ⟨g, cap, cur, rfl, hb g rfl, r⟩⟩
/-- a new one's limbs, with where they lie -/
theorem newE_own {x : EI} {w w' : World} {S : List Nat} {c0 c1 c2 u c4 : Value} (o : At S (OwnE (.agg #[c0, c1, c2, u, c4]) x) w') (l : Within S w.heap.size w'.heap.size) : w'.ownsRow w.heap.size 3 1 u x.2.2.1.2.length (intsV x.2.2.1.2) ∧ ∀ b, u.ownBlock = some b → b < w'.heap.size := by
  have hm := at_ints_mem o (fun w' k => ownE_open k)
  exact ⟨own_highE (ownE_open o.here) fun g hg => (l g (hm g hg)).1, fun b hb => (l b (hm b hb)).2⟩
theorem infoEL : (Tryz.prog.info? 41).map (fun i => (i.zero, i.size, i.bytes)) = some (some (.agg #[.string ⟨#[]⟩, .string ⟨#[]⟩, .bool false, .slice none 0 0, .int .i64 0]), 5, 72) := by kernel_rfl
theorem makeEL (n : Nat) (hn : n ≤ 1099511627776) (W : World) :
    (Instr.makeSlice 23 (.int .i64 (n : Int)) (.int .i64 (n : Int))).run Tryz.prog W = .ok (.slice (some ⟨W.heap.size, 0, none⟩) n n) (W.alloc (.cells (madeCells #[.string ⟨#[]⟩, .string ⟨#[]⟩, .bool false, .slice none 0 0, .int .i64 0] (n * 5)) 41)) := by
  obtain ⟨i0, hi, hz0, hz1, hz2⟩ := info_parts infoEL
  have h := run_make (P := Tryz.prog) W 23 41 i0 (.agg #[.string ⟨#[]⟩, .string ⟨#[]⟩, .bool false, .slice none 0 0, .int .i64 0]) Tryz.underlying23 hi hz0 .i64 .i64 (n : Int) (n : Int) (by omega) (by omega) (by rw [hz2]; omega) (by omega)
  rw [hz1, Int.toNat_natCast] at h
  exact h
/-- a new slice of these -/
def NewEL (l : List EI) (w : World) (e : Ending) (w' : World) : Prop := ∃ v, e = .returned v ∧ OwnEL v l w.heap.size w'.heap.size w' ∧ Below w.heap.size w w'

set_option maxHeartbeats 4000000 in
set_option maxRecDepth 100000 in
theorem toRateS_any (v : Value) (l : List EI) (w : World) (hl : l.length ≤ 1048576) (hx : ∀ x ∈ l, szE x ≤ 1048576) (h : RdEL w v l) :
    Calls Tryz.prog 75 #[v] w (NewEL l w) := by
  obtain ⟨A, c, rfl, hc⟩ := h
  have HC := Lib.hid hc
  have hmk := makeEL l.length (by omega)
  clear hc
  go_enter Tryz.func75, Tryz.ntmps75
  go_wp2
  go_loopw [4] (fun i wr => ∃ (k : Nat) (xs : List Value) (e : List (ByteArray × ByteArray × Bool × Value × Int)), k ≤ l.length ∧ i = .int .i64 k ∧ wr.ownsRow w.heap.size 41 5 (.slice (some ⟨w.heap.size, 0, none⟩) l.length l.length) l.length xs ∧ Hid (xs.take (k * 5) = flatE e) ∧ OwnEG wr (w.heap.size + 1) (l.take k) e wr.heap.size ∧ Below w.heap.size w wr) (fun i _ => l.length - (intOf i).toNat)
  case atStart =>
    have h := World.ownsRow_lit (e := 41) (size := 5) (base := w.heap.size) w (madeCells #[.string ⟨#[]⟩, .string ⟨#[]⟩, .bool false, .slice none 0 0, .int .i64 0] (l.length * 5)) l.length (Nat.le_refl _) (by unfold maxLen; omega) (by rw [size_madeCells])
    exact ⟨0, _, [], Nat.zero_le _, rfl, h, Lib.hid (by rw [Nat.zero_mul, List.take_zero]; rfl), by rw [List.take_zero]; show _ ≤ _; simp, (Below.refl _ _).alloc (Nat.le_refl _) _⟩
  case round =>
    obtain ⟨k, xs, e, hk, rfl, ho, HX, hes, hb⟩ := hrel
    by_cases hlt : k < l.length
    · obtain ⟨x, hxk⟩ : ∃ x, l[k]? = some x := ⟨_, List.getElem?_eq_getElem hlt⟩
      obtain ⟨a, u, rfl, ha, hc0, hc1, hc2, hc3, hc4, hr⟩ := HC.out k x hxk
      have hxl := hx x (List.mem_of_getElem? hxk)
      have k0 := (cell_keep5' hb ha k).trans hc0
      have k1 := (cell_keep5 hb ha k 1).trans hc1
      have k2 := (cell_keep5 hb ha k 2).trans hc2
      have k3 := (cell_keep5 hb ha k 3).trans hc3
      have k4 := (cell_keep5 hb ha k 4).trans hc4
      obtain ⟨A1, c1, rfl⟩ := row_form hr
      rw [intsV_length] at hc3 k3 hr
      go_wp2_with fail
      refine (toE_new _ x _ hxl (RdE.below ⟨_, rfl, hr⟩ hb)).mono ?_
      rintro e' w1 ⟨u0, S1, rfl, o0, l0, b1⟩
      obtain ⟨A2, c2, rfl⟩ := ownE_form o0.here
      obtain ⟨o1, hu1⟩ := newE_own o0 l0
      have bb1 := Below.next hb b1
      have ho1 := own_below ho b1
      have hxs := ho1.1
      have hcell0 := ho1.cellAt (k * 5) (by omega)
      have hcell1 := ho1.cellAt (k * 5 + 1) (by omega)
      have hcell2 := ho1.cellAt (k * 5 + 2) (by omega)
      have hcell3 := ho1.cellAt (k * 5 + 3) (by omega)
      have hcell4 := ho1.cellAt (k * 5 + 4) (by omega)
      rw [List.getElem?_eq_getElem (by omega)] at hcell0 hcell1 hcell2 hcell3 hcell4
      have hfr0 := ho1.frozenAt (k * 5)
      have hfr1 := ho1.frozenAt (k * 5 + 1)
      have hfr2 := ho1.frozenAt (k * 5 + 2)
      have hfr3 := ho1.frozenAt (k * 5 + 3)
      have hfr4 := ho1.frozenAt (k * 5 + 4)
      obtain ⟨hp0, hg0⟩ := ho1.stored (k * 5) (.string x.1)
      obtain ⟨hp1, hg1⟩ := hp0.stored (k * 5 + 1) (.string x.2.1)
      obtain ⟨hp2, hg2⟩ := hp1.stored (k * 5 + 2) (.bool x.2.2.1.1)
      obtain ⟨hp3, hg3⟩ := hp2.stored (k * 5 + 3) (.slice A2 x.2.2.1.2.length c2)
      obtain ⟨hp4, hg4⟩ := hp3.stored (k * 5 + 4) (.int .i64 x.2.2.2)
      have hlw : w.heap.size < wr.heap.size := (own_lt ho (g := w.heap.size) rfl).2
      have hes1 := OwnEG.snoc (hi := w1.heap.size) (hes.stays fun i _ hi => b1.block i hi) o1 hu1 b1.size
      have hes2 : OwnEG (((((w1.setCell ⟨w.heap.size, k * 5, none⟩ (.string x.1)).setCell ⟨w.heap.size, k * 5 + 1, none⟩ (.string x.2.1)).setCell ⟨w.heap.size, k * 5 + 2, none⟩ (.bool x.2.2.1.1)).setCell ⟨w.heap.size, k * 5 + 3, none⟩ (.slice A2 x.2.2.1.2.length c2)).setCell ⟨w.heap.size, k * 5 + 4, none⟩ (.int .i64 x.2.2.2)) (w.heap.size + 1) (l.take (k + 1)) (e ++ [(x.1, x.2.1, x.2.2.1.1, .slice A2 x.2.2.1.2.length c2, x.2.2.2)]) (((((w1.setCell ⟨w.heap.size, k * 5, none⟩ (.string x.1)).setCell ⟨w.heap.size, k * 5 + 1, none⟩ (.string x.2.1)).setCell ⟨w.heap.size, k * 5 + 2, none⟩ (.bool x.2.2.1.1)).setCell ⟨w.heap.size, k * 5 + 3, none⟩ (.slice A2 x.2.2.1.2.length c2)).setCell ⟨w.heap.size, k * 5 + 4, none⟩ (.int .i64 x.2.2.2)).heap.size := by
        rw [List.take_succ_eq_append_getElem hlt, (List.getElem?_eq_some_iff.1 hxk).2]
        refine (hes1.stays fun i hi _ => ?_).wide (by simp [World.setCell])
        have hne : i ≠ w.heap.size := by omega
        rw [Below.heap_setCell _ _ _ _ hne, Below.heap_setCell _ _ _ _ hne, Below.heap_setCell _ _ _ _ hne, Below.heap_setCell _ _ _ _ hne, Below.heap_setCell _ _ _ _ hne]
      have hb3 : Below w.heap.size w (((((w1.setCell ⟨w.heap.size, k * 5, none⟩ (.string x.1)).setCell ⟨w.heap.size, k * 5 + 1, none⟩ (.string x.2.1)).setCell ⟨w.heap.size, k * 5 + 2, none⟩ (.bool x.2.2.1.1)).setCell ⟨w.heap.size, k * 5 + 3, none⟩ (.slice A2 x.2.2.1.2.length c2)).setCell ⟨w.heap.size, k * 5 + 4, none⟩ (.int .i64 x.2.2.2)) := (((((bb1.setCell (p := ⟨w.heap.size, k * 5, none⟩) (Nat.le_refl _) _).setCell (p := ⟨w.heap.size, k * 5 + 1, none⟩) (Nat.le_refl _) _).setCell (p := ⟨w.heap.size, k * 5 + 2, none⟩) (Nat.le_refl _) _).setCell (p := ⟨w.heap.size, k * 5 + 3, none⟩) (Nat.le_refl _) _).setCell (p := ⟨w.heap.size, k * 5 + 4, none⟩) (Nat.le_refl _) _)
      have HF := Lib.hid (show (((((xs.set (k * 5) (.string x.1)).set (k * 5 + 1) (.string x.2.1)).set (k * 5 + 2) (.bool x.2.2.1.1)).set (k * 5 + 3) (.slice A2 x.2.2.1.2.length c2)).set (k * 5 + 4) (.int .i64 x.2.2.2)).take ((k + 1) * 5) = flatE (e ++ [(x.1, x.2.1, x.2.2.1.1, .slice A2 x.2.2.1.2.length c2, x.2.2.2)]) by
        rw [set_cellsE xs k _ _ _ _ _  (by omega), HX.out, flatE_append]; rfl)
      have H3 := Lib.hid hp4
      have HE2 := Lib.hid hes2
      have HB3 := Lib.hid hb3
      clear hes hes1 hes2 ho ho1 hp0 hg0 hp1 hg1 hp2 hg2 hp3 hg3 hp4 hg4 hb3 o1 o0 l0 hu1 k0 k1 k2 k3 k4 hc0 hc1 hc2 hc3 hc4 hr b1 bb1
      go_wp2
      go_roundw
      case rel => exact ⟨k + 1, _, _, by omega, by go_num, H3.out, HF, HE2.out, HB3.out⟩
      case measure => simp [intOf]; omega
    · obtain rfl : k = l.length := by omega
      have hxs := ho.1
      have he : xs = flatE e := by rw [← HX.out, List.take_of_length_le (by omega)]
      rw [List.take_length] at hes
      have hlw : w.heap.size < wr.heap.size := (own_lt ho (g := w.heap.size) rfl).2
      have HO := Lib.hid (show OwnEL (.slice (some ⟨w.heap.size, 0, none⟩) l.length l.length) l w.heap.size wr.heap.size wr from ⟨w.heap.size, e, rfl, Nat.le_refl _, hlw, Nat.le_refl _, by rw [← he]; exact ho, hes⟩)
      clear he hes hxs ho
      go_wp2
      go_ret
      exact ⟨_, rfl, HO.out, hb⟩
set_option maxHeartbeats 4000000 in
set_option maxRecDepth 100000 in
theorem eqRateS_any (va vb : Value) (ss ts : List EI) (w : World) (hl : ss.length ≤ 140737488355328) (hx : ∀ x ∈ ss, capE x) (hra : RdEL w va ss) (hrb : RdEL w vb ts) :
    Calls Tryz.prog 76 #[va, vb] w fun e w' => e = .returned (.bool (decide (ss = ts))) ∧ Below w.heap.size w w' := by
  obtain ⟨A, c, rfl, hA⟩ := hra
  obtain ⟨B, d, rfl, hB⟩ := hrb
  have HA := Lib.hid hA
  have HB := Lib.hid hB
  clear hA hB
  by_cases hlen : ss.length = ts.length
  · have HL := Lib.hid hlen
    have hbe : ((ss.length : Int) != (ts.length : Int)) = false := by simp [hlen]
    clear hlen
    go_enter Tryz.func76, Tryz.ntmps76
    go_wp2
    go_loopw [5] (fun i wr => ∃ k : Nat, k ≤ ss.length ∧ i = .int .i64 k ∧ Below w.heap.size w wr ∧ Hid (ss.take k = ts.take k)) (fun i _ => ss.length - (intOf i).toNat)
    case atStart => exact ⟨0, Nat.zero_le _, rfl, Below.refl _ _, Lib.hid rfl⟩
    case round =>
      obtain ⟨k, hk, rfl, hb, HT⟩ := hrel
      by_cases hlt : k < ss.length
      · have hlt2 : k < ts.length := by have := HL.out; omega
        obtain ⟨a, u, rfl, ha, hc0, hc1, hc2, hc3, hc4, hr⟩ := HA.out k ss[k] (List.getElem?_eq_getElem hlt)
        obtain ⟨b, v, rfl, ha', hd0, hd1, hd2, hd3, hd4, hr'⟩ := HB.out k ts[k] (List.getElem?_eq_getElem hlt2)
        have hxl := hx ss[k] (List.getElem_mem hlt)
        obtain ⟨A1, c1, rfl⟩ := row_form hr
        obtain ⟨B1, d1, rfl⟩ := row_form hr'
        rw [intsV_length] at hc3 hr hd3 hr'
        have HR := Lib.hid (show ∀ W, Below w.heap.size w W → RdE W (.agg #[.string ss[k].1, .string ss[k].2.1, .bool ss[k].2.2.1.1, .slice A1 ss[k].2.2.1.2.length c1, .int .i64 ss[k].2.2.2]) ss[k] from fun W hb => RdE.below ⟨_, rfl, hr⟩ hb)
        have HR' := Lib.hid (show ∀ W, Below w.heap.size w W → RdE W (.agg #[.string ts[k].1, .string ts[k].2.1, .bool ts[k].2.2.1.1, .slice B1 ts[k].2.2.1.2.length d1, .int .i64 ts[k].2.2.2]) ts[k] from fun W hb => RdE.below ⟨_, rfl, hr'⟩ hb)
        have HCC := Lib.hid (show a.block < w.heap.size ∧ b.block < w.heap.size ∧ w.cell? (a.add (k * 5)) = some (.string ss[k].1) ∧ w.cell? ⟨(a.add (k * 5)).block, (a.add (k * 5)).off + 1, none⟩ = some (.string ss[k].2.1) ∧ w.cell? ⟨(a.add (k * 5)).block, (a.add (k * 5)).off + 2, none⟩ = some (.bool ss[k].2.2.1.1) ∧ w.cell? ⟨(a.add (k * 5)).block, (a.add (k * 5)).off + 3, none⟩ = some (.slice A1 ss[k].2.2.1.2.length c1) ∧ w.cell? ⟨(a.add (k * 5)).block, (a.add (k * 5)).off + 4, none⟩ = some (.int .i64 ss[k].2.2.2) ∧ w.cell? (b.add (k * 5)) = some (.string ts[k].1) ∧ w.cell? ⟨(b.add (k * 5)).block, (b.add (k * 5)).off + 1, none⟩ = some (.string ts[k].2.1) ∧ w.cell? ⟨(b.add (k * 5)).block, (b.add (k * 5)).off + 2, none⟩ = some (.bool ts[k].2.2.1.1) ∧ w.cell? ⟨(b.add (k * 5)).block, (b.add (k * 5)).off + 3, none⟩ = some (.slice B1 ts[k].2.2.1.2.length d1) ∧ w.cell? ⟨(b.add (k * 5)).block, (b.add (k * 5)).off + 4, none⟩ = some (.int .i64 ts[k].2.2.2) from ⟨ha, ha', hc0, hc1, hc2, hc3, hc4, hd0, hd1, hd2, hd3, hd4⟩)
        have HTS := Lib.hid (show (ss[k] = ts[k] → ss.take (k + 1) = ts.take (k + 1)) ∧ (¬ ss[k] = ts[k] → ¬ ss = ts) from ⟨take_same_succ HT.out hlt hlt2, ne_of_at hlt hlt2⟩)
        generalize ss[k] = x at *
        generalize ts[k] = y at *
        have KL := Lib.hid (show ∀ W, Below w.heap.size w W → W.cell? (a.add (k * 5)) = some (.string x.1) ∧ W.cell? ⟨(a.add (k * 5)).block, (a.add (k * 5)).off + 1, none⟩ = some (.string x.2.1) ∧ W.cell? ⟨(a.add (k * 5)).block, (a.add (k * 5)).off + 2, none⟩ = some (.bool x.2.2.1.1) ∧ W.cell? ⟨(a.add (k * 5)).block, (a.add (k * 5)).off + 3, none⟩ = some (.slice A1 x.2.2.1.2.length c1) ∧ W.cell? ⟨(a.add (k * 5)).block, (a.add (k * 5)).off + 4, none⟩ = some (.int .i64 x.2.2.2) ∧ W.cell? (b.add (k * 5)) = some (.string y.1) ∧ W.cell? ⟨(b.add (k * 5)).block, (b.add (k * 5)).off + 1, none⟩ = some (.string y.2.1) ∧ W.cell? ⟨(b.add (k * 5)).block, (b.add (k * 5)).off + 2, none⟩ = some (.bool y.2.2.1.1) ∧ W.cell? ⟨(b.add (k * 5)).block, (b.add (k * 5)).off + 3, none⟩ = some (.slice B1 y.2.2.1.2.length d1) ∧ W.cell? ⟨(b.add (k * 5)).block, (b.add (k * 5)).off + 4, none⟩ = some (.int .i64 y.2.2.2) ∧ Hid (Below w.heap.size w W) from
          fun W hb => by
            obtain ⟨h1, h2, h3, h4, h5, h6, h7, h8, h9, h10, h11, h12⟩ := HCC.out
            exact ⟨(cell_keep5' hb h1 k).trans h3, (cell_keep5 hb h1 k 1).trans h4, (cell_keep5 hb h1 k 2).trans h5, (cell_keep5 hb h1 k 3).trans h6, (cell_keep5 hb h1 k 4).trans h7, (cell_keep5' hb h2 k).trans h8, (cell_keep5 hb h2 k 1).trans h9, (cell_keep5 hb h2 k 2).trans h10, (cell_keep5 hb h2 k 3).trans h11, (cell_keep5 hb h2 k 4).trans h12, Lib.hid hb⟩)
        have HB0 := Lib.hid hb
        have HXL := Lib.hid hxl
        clear hb hc0 hc1 hc2 hc3 hc4 hd0 hd1 hd2 hd3 hd4 hr hr' ha ha' hxl HCC
        go_wp2
        go_region_held3 (fun W => W.cell? (a.add (k * 5)) = some (.string x.1) ∧ W.cell? ⟨(a.add (k * 5)).block, (a.add (k * 5)).off + 1, none⟩ = some (.string x.2.1) ∧ W.cell? ⟨(a.add (k * 5)).block, (a.add (k * 5)).off + 2, none⟩ = some (.bool x.2.2.1.1) ∧ W.cell? ⟨(a.add (k * 5)).block, (a.add (k * 5)).off + 3, none⟩ = some (.slice A1 x.2.2.1.2.length c1) ∧ W.cell? ⟨(a.add (k * 5)).block, (a.add (k * 5)).off + 4, none⟩ = some (.int .i64 x.2.2.2) ∧ W.cell? (b.add (k * 5)) = some (.string y.1) ∧ W.cell? ⟨(b.add (k * 5)).block, (b.add (k * 5)).off + 1, none⟩ = some (.string y.2.1) ∧ W.cell? ⟨(b.add (k * 5)).block, (b.add (k * 5)).off + 2, none⟩ = some (.bool y.2.2.1.1) ∧ W.cell? ⟨(b.add (k * 5)).block, (b.add (k * 5)).off + 3, none⟩ = some (.slice B1 y.2.2.1.2.length d1) ∧ W.cell? ⟨(b.add (k * 5)).block, (b.add (k * 5)).off + 4, none⟩ = some (.int .i64 y.2.2.2) ∧ Hid (Below w.heap.size w W))
          ((refine KL.out _ ?_; (first | exact HB1.out | exact HB0.out.drew | fail)))
          (first
            | (go_at_call 40; (have hBB := (‹_ ∧ _ ∧ _ ∧ _ ∧ _ ∧ _ ∧ _ ∧ _ ∧ _ ∧ _ ∧ Hid (Below w.heap.size w _)›).2.2.2.2.2.2.2.2.2.2); (with_reducible refine (eqE_cal _ _ x y _ HXL.out (HR.out _ hBB.out) (HR'.out _ hBB.out)).mono ?_); rintro e w1 ⟨rfl, b1⟩; have HB1 := Lib.hid (Below.next hBB.out b1); clear hBB b1))
        by_cases he : x = y
        · have hdt : decide (x = y) = true := decide_eq_true he
          rw [hdt]
          have HE := Lib.hid (HTS.out.1 he)
          clear hdt he
          go_wp2
          go_roundw
          case rel => exact ⟨k + 1, by omega, by go_num, HB1.out, HE⟩
          case measure => simp [intOf]; omega
        · have hdt : decide (x = y) = false := decide_eq_false he
          rw [hdt]
          have HE := Lib.hid (HTS.out.2 he)
          clear hdt he
          go_wp2
          go_ret
          exact ⟨ret_bool (decide_eq_false HE.out).symm, HB1.out⟩
      · go_wp2
        go_ret
        exact ⟨ret_bool (decide_eq_true (same_of_takes HT.out HL.out hlt)).symm, hb⟩
  · have hbe : ((ss.length : Int) != (ts.length : Int)) = true := by simp; omega
    go_enter Tryz.func76, Tryz.ntmps76
    go_wp2
    go_ret
    exact ⟨ret_bool (decide_eq_false (fun e => hlen (by rw [e]))).symm, Below.refl _ _⟩
/-- the blocks from lo on, ahead of hi -/
def rangeE (lo hi : Nat) : List Nat := List.range' lo (hi - lo)
theorem mem_rangeE {lo hi g : Nat} (h : lo ≤ g) (h2 : g < hi) : g ∈ rangeE lo hi := by
  unfold rangeE
  rw [List.mem_range'_1]
  omega
theorem rangeE_mem {lo hi g : Nat} (h : g ∈ rangeE lo hi) : lo ≤ g ∧ g < hi := by
  unfold rangeE at h
  rw [List.mem_range'_1] at h
  omega
theorem Chg.grownE {S : List Nat} {w w1 w2 : World} {v : Value} (h : Chg S w w1) (hg : w1.grownBy w2 v.ownBlock) (hS : ∀ b, v.ownBlock = some b → b ∈ S) : Chg S w w2 :=
  h.trans ((Chg.of_grown hg).more fun g hg => hS g (by simpa using hg))
/-- how much a mark of it takes -/
def mkEL : List EI → Int
  | [] => 0
  | x :: l => 4 + x.2.2.1.2.length + mkEL l
theorem mkEL_nonneg (l : List EI) : 0 ≤ mkEL l := by
  induction l with
  | nil => exact Int.le_refl _
  | cons x l ih => show 0 ≤ 4 + (x.2.2.1.2.length : Int) + mkEL l; omega
theorem mkEL_len (l : List EI) : (l.length : Int) ≤ mkEL l := by
  induction l with
  | nil => exact Int.le_refl _
  | cons x l ih => show ((l.length + 1 : Nat) : Int) ≤ 4 + (x.2.2.1.2.length : Int) + mkEL l; omega
theorem mkEL_append (l r : List EI) : mkEL (l ++ r) = mkEL l + mkEL r := by
  induction l with
  | nil => show mkEL r = 0 + mkEL r; omega
  | cons x l ih => show 4 + (x.2.2.1.2.length : Int) + mkEL (l ++ r) = 4 + (x.2.2.1.2.length : Int) + mkEL l + mkEL r; rw [ih]; omega
theorem mkEL_take {l : List EI} {j : Nat} {x : EI} (h : l[j]? = some x) : mkEL (l.take (j + 1)) = mkEL (l.take j) + (4 + x.2.2.1.2.length) := by
  have hj := (List.getElem?_eq_some_iff.1 h).1
  have e : l[j] = x := (List.getElem?_eq_some_iff.1 h).2
  rw [List.take_succ_eq_append_getElem hj, mkEL_append, e]
  show _ + (4 + (x.2.2.1.2.length : Int) + 0) = _
  omega
theorem mkEL_take_le (l : List EI) (j : Nat) : mkEL (l.take j) ≤ mkEL l := by
  have := mkEL_append (l.take j) (l.drop j)
  rw [List.take_append_drop] at this
  have := mkEL_nonneg (l.drop j)
  omega
end Go.Proofs.YtbpfabicampdkaaGreatDoor

namespace Go.Proofs.YtbpfabicampdkaaGreatDoor
open Go.RowKit

/-- an element's cells: From, To, the sign, the limbs' slice, the scale -/
abbrev CE : Type := ByteArray × ByteArray × Bool × Value × Int
/-- it stands for this rate, its limbs of the call's own -/
def CellE (p : CE) (x : EI) (w : World) : Prop := p.1 = x.1 ∧ p.2.1 = x.2.1 ∧ p.2.2.1 = x.2.2.1.1 ∧ p.2.2.2.2 = x.2.2.2 ∧ OwnI p.2.2.2.1 x.2.2.1.2 w
/-- no two limbs' slices on one block, and none on v's -/
def ApartE (v : Value) (e : List CE) : Prop :=
  (∀ (i j : Nat) p q b, e[i]? = some p → e[j]? = some q → p.2.2.2.1.ownBlock = some b → q.2.2.2.1.ownBlock = some b → i = j) ∧ ∀ (i : Nat) p b, e[i]? = some p → p.2.2.2.1.ownBlock = some b → v.ownBlock ≠ some b
/-- such a slice, of the call's own -/
def OwnEP (v : Value) (l : List EI) (w : World) : Prop :=
  ∃ e : List CE, w.ownsRow 0 41 5 v l.length (flatE e) ∧ e.length = l.length ∧ (∀ (j : Nat) x p, l[j]? = some x → e[j]? = some p → CellE p x w) ∧ ApartE v e
/-- a slice that reads as these rates, their limbs of the call's own -/
def OwnER (w : World) (v : Value) (l : List EI) : Prop :=
  ∃ A c, v = .slice A l.length c ∧ ∀ (j : Nat) x, l[j]? = some x → ∃ a u, A = some a ∧ a.block < w.heap.size ∧ w.cell? (a.add (j * 5)) = some (.string x.1) ∧ w.cell? ⟨(a.add (j * 5)).block, (a.add (j * 5)).off + 1, none⟩ = some (.string x.2.1) ∧ w.cell? ⟨(a.add (j * 5)).block, (a.add (j * 5)).off + 2, none⟩ = some (.bool x.2.2.1.1) ∧ w.cell? ⟨(a.add (j * 5)).block, (a.add (j * 5)).off + 3, none⟩ = some u ∧ w.cell? ⟨(a.add (j * 5)).block, (a.add (j * 5)).off + 4, none⟩ = some (.int .i64 x.2.2.2) ∧ OwnI u x.2.2.1.2 w
theorem OwnER.below {w w' : World} {v : Value} {l : List EI} (h : OwnER w v l) (hb : Below w.heap.size w w') : OwnER w' v l := by
  obtain ⟨A, c, rfl, h⟩ := h
  refine ⟨A, c, rfl, fun j x hj => ?_⟩
  obtain ⟨a, u, rfl, h1, h2, h3, h4, h5, h6, h7⟩ := h j x hj
  exact ⟨a, u, rfl, Nat.lt_of_lt_of_le h1 hb.size, (cell_keep5' hb h1 j).trans h2, (cell_keep5 hb h1 j 1).trans h3, (cell_keep5 hb h1 j 2).trans h4, (cell_keep5 hb h1 j 3).trans h5, (cell_keep5 hb h1 j 4).trans h6, own_below h7 hb⟩
theorem OwnER.rd {w : World} {v : Value} {l : List EI} (h : OwnER w v l) : RdEL w v l := by
  obtain ⟨A, c, rfl, h⟩ := h
  refine ⟨A, c, rfl, fun j x hj => ?_⟩
  obtain ⟨a, u, rfl, h1, h2, h3, h4, h5, h6, h7⟩ := h j x hj
  exact ⟨a, u, rfl, h1, h2, h3, h4, h5, h6, h7.row⟩
theorem own_lenE {w : World} {base n size : Nat} {e : TypeId} {v : Value} {xs : List Value} (h : w.ownsRow base e size v n xs) : ∃ A c, v = .slice A n c := by
  rcases h.2 with ⟨rfl, rfl⟩ | ⟨g, cap, cur, rfl, _⟩
  · exact ⟨_, _, rfl⟩
  · exact ⟨_, _, rfl⟩
theorem own_lowE {w : World} {base base' n size : Nat} {e : TypeId} {v : Value} {xs : List Value} (h : w.ownsRow base e size v n xs) (hb : base' ≤ base) : w.ownsRow base' e size v n xs := by
  obtain ⟨hl, h | ⟨g, cap, cur, rfl, hg, r⟩⟩ := h
  · exact ⟨hl, .inl h⟩
  · exact ⟨hl, .inr ⟨g, cap, cur, rfl, by omega, r⟩⟩
theorem OwnEP.below {v : Value} {l : List EI} {w w' : World} (h : OwnEP v l w) (hb : Below w.heap.size w w') : OwnEP v l w' := by
  obtain ⟨e, h4, h5, h6, h7⟩ := h
  refine ⟨e, own_below h4 hb, h5, fun j x p hx hp => ?_, h7⟩
  obtain ⟨e0, e1, e2, e3, ho⟩ := h6 j x p hx hp
  exact ⟨e0, e1, e2, e3, own_below ho hb⟩
theorem OwnEP.ownR {v : Value} {l : List EI} {w : World} (h : OwnEP v l w) : OwnER w v l := by
  obtain ⟨e, h4, hlen, h5, _⟩ := h
  obtain ⟨A, c, rfl⟩ := own_lenE h4
  refine ⟨A, c, rfl, fun j x hj => ?_⟩
  have hjl := (List.getElem?_eq_some_iff.1 hj).1
  obtain ⟨g, cap, ev, _, hg, _⟩ := own_form h4 (by omega)
  cases ev
  obtain ⟨p, hp⟩ : ∃ p, e[j]? = some p := ⟨_, List.getElem?_eq_getElem (by omega)⟩
  obtain ⟨e0, e1, e2, e3, ho⟩ := h5 j x p hj hp
  have hf := flatE_get hp
  rw [e0, e1, e2, e3] at hf
  refine ⟨⟨g, 0, none⟩, p.2.2.2.1, rfl, hg, ?_, ?_, ?_, ?_, ?_, ho⟩
  · have := h4.cellAt (j * 5) (by omega)
    rw [hf.1] at this
    rw [add_ownE]
    exact this
  · have := h4.cellAt (j * 5 + 1) (by omega)
    rw [hf.2.1] at this
    rw [add_ownE]
    exact this
  · have := h4.cellAt (j * 5 + 2) (by omega)
    rw [hf.2.2.1] at this
    rw [add_ownE]
    exact this
  · have := h4.cellAt (j * 5 + 3) (by omega)
    rw [hf.2.2.2.1] at this
    rw [add_ownE]
    exact this
  · have := h4.cellAt (j * 5 + 4) (by omega)
    rw [hf.2.2.2.2] at this
    rw [add_ownE]
    exact this
theorem OwnEG.blocks {w : World} {lo hi : Nat} {l : List EI} {e : List CE} (h : OwnEG w lo l e hi) : ∀ (i : Nat) p b, e[i]? = some p → p.2.2.2.1.ownBlock = some b → lo ≤ b ∧ b < hi := by
  induction l generalizing lo e with
  | nil =>
    cases e with
    | nil => intro i p b hp; simp at hp
    | cons _ _ => exact h.elim
  | cons x l ih =>
    cases e with
    | nil => exact h.elim
    | cons q e =>
      obtain ⟨mid, h1, _, _, _, _, h3, h4, h5⟩ := h
      intro i p b hp hb
      have hle := h5.le
      cases i with
      | zero =>
        obtain rfl : q = p := by simpa using hp
        have := h4 b hb
        exact ⟨(own_lt h3 hb).1, by omega⟩
      | succ i =>
        have := ih h5 i p b (by simpa using hp) hb
        omega
theorem OwnEG.apart {w : World} {lo hi : Nat} {l : List EI} {e : List CE} (h : OwnEG w lo l e hi) : ∀ (i j : Nat) p q b, e[i]? = some p → e[j]? = some q → p.2.2.2.1.ownBlock = some b → q.2.2.2.1.ownBlock = some b → i = j := by
  induction l generalizing lo e with
  | nil =>
    cases e with
    | nil => intro i j p q b hp; simp at hp
    | cons _ _ => exact h.elim
  | cons x l ih =>
    cases e with
    | nil => exact h.elim
    | cons r e =>
      obtain ⟨mid, h1, _, _, _, _, h3, h4, h5⟩ := h
      intro i j p q b hp hq hpb hqb
      cases i with
      | zero =>
        cases j with
        | zero => rfl
        | succ j =>
          exfalso
          obtain rfl : r = p := by simpa using hp
          have := h4 b hpb
          have := (h5.blocks j q b (by simpa using hq) hqb).1
          omega
      | succ i =>
        cases j with
        | zero =>
          exfalso
          obtain rfl : r = q := by simpa using hq
          have := h4 b hqb
          have := (h5.blocks i p b (by simpa using hp) hpb).1
          omega
        | succ j => rw [ih h5 i j p q b (by simpa using hp) (by simpa using hq) hpb hqb]
theorem OwnEL.own {v : Value} {l : List EI} {lo hi : Nat} {w : World} (h : OwnEL v l lo hi w) : OwnEP v l w := by
  obtain ⟨g, e, rfl, h1, h2, h3, h4, h5⟩ := h
  refine ⟨e, own_lowE h4 (Nat.zero_le _), h5.length, fun j x p hx hp => ?_, h5.apart, fun i p b hp hb hv => ?_⟩
  · obtain ⟨u, he, ho⟩ := h5.at_ hx
    rw [he] at hp
    cases hp
    exact ⟨rfl, rfl, rfl, rfl, ho⟩
  · have := (h5.blocks i p b hp hb).1
    have hg : g = b := by
      have : (some g : Option Nat) = some b := hv
      injection this
    omega
/-- the blocks that it lies on -/
def blocksE (v : Value) (e : List CE) : List Nat := v.ownBlock.toList ++ e.flatMap fun p => p.2.2.2.1.ownBlock.toList
theorem blocksE_v {v : Value} {e : List CE} {b : Nat} (h : v.ownBlock = some b) : b ∈ blocksE v e := by
  unfold blocksE
  rw [h]
  simp
theorem blocksE_e {v : Value} {e : List CE} {p : CE} {b : Nat} (hp : p ∈ e) (h : p.2.2.2.1.ownBlock = some b) : b ∈ blocksE v e :=
  List.mem_append_right _ (List.mem_flatMap.2 ⟨p, hp, by rw [h]; simp⟩)
theorem blocksE_mem {v : Value} {e : List CE} {b : Nat} (h : b ∈ blocksE v e) : v.ownBlock = some b ∨ ∃ (j : Nat) (p : CE), e[j]? = some p ∧ p.2.2.2.1.ownBlock = some b := by
  rcases List.mem_append.1 h with h | h
  · left; simpa using h
  · right
    obtain ⟨p, hp, hb⟩ := List.mem_flatMap.1 h
    obtain ⟨j, hj⟩ := List.mem_iff_getElem?.1 hp
    exact ⟨j, p, hj, by simpa using hb⟩
theorem ownEP_at {v : Value} {l : List EI} {w : World} {e : List CE} (h4 : w.ownsRow 0 41 5 v l.length (flatE e)) (hl : e.length = l.length) (h5 : ∀ (j : Nat) x p, l[j]? = some x → e[j]? = some p → CellE p x w) (h6 : ApartE v e) : At (blocksE v e) (OwnEP v l) w := by
  refine ⟨⟨e, h4, hl, h5, h6⟩, fun g hg => ?_, fun w' hk => ⟨e, own_stays h4 fun g hg => hk g (blocksE_v hg), hl, fun j x p hx hp => ?_, h6⟩⟩
  · rcases blocksE_mem hg with h | ⟨j, p, hp, h⟩
    · exact (own_lt h4 h).2
    · obtain ⟨x, hx⟩ : ∃ x, l[j]? = some x := ⟨_, List.getElem?_eq_getElem (by have := (List.getElem?_eq_some_iff.1 hp).1; omega)⟩
      exact (own_lt (h5 j x p hx hp).2.2.2.2 h).2
  · obtain ⟨e0, e1, e2, e3, ho⟩ := h5 j x p hx hp
    exact ⟨e0, e1, e2, e3, own_stays ho fun g hg => hk g (blocksE_e (List.mem_of_getElem? hp) hg)⟩
/-- a fact that says what a row holds leans on its block -/
theorem at_row_memE {S : List Nat} {φ : World → Prop} {w : World} {u : Value} {T : TypeId} {size : Nat} (hT : ¬ T = 4) (h : At S φ w) (hi : ∀ w', φ w' → ∃ base n xs, w'.ownsRow base T size u n xs) : ∀ g, u.ownBlock = some g → g ∈ S := by
  intro g hg
  rcases Classical.em (g ∈ S) with hin | hout
  · exact hin
  · exfalso
    obtain ⟨b1, n1, x1, h1⟩ := hi _ h.here
    obtain ⟨b2, n2, x2, hst⟩ := hi _ (h.stays { w with heap := w.heap.set! g (.cells #[] 4 (0, 0)) } (fun i hi => by
      have : i ≠ g := fun e => hout (e ▸ hi)
      simp [Ne.symm this]))
    have hlt := (own_lt h1 hg).2
    obtain ⟨_, ⟨rfl, _⟩ | ⟨g', cap, cur, rfl, _, hh, _⟩⟩ := hst
    · cases hg
    · cases hg
      have hlt' : g' < w.heap.size := hlt
      have hh' : (w.heap.setIfInBounds g' (.cells #[] 4 (0, 0)))[g']? = some (.cells cur T (0, 0)) := hh
      rw [Array.getElem?_setIfInBounds_self_of_lt hlt'] at hh'
      injection hh' with hh'
      injection hh' with e1 e2
      exact hT e2.symm
theorem atEP_mem {S : List Nat} {u : Value} {l : List EI} {w : World} (h : At S (OwnEP u l) w) : ∃ e : List CE, w.ownsRow 0 41 5 u l.length (flatE e) ∧ e.length = l.length ∧ (∀ (j : Nat) x p, l[j]? = some x → e[j]? = some p → CellE p x w) ∧ ApartE u e ∧ (∀ b, u.ownBlock = some b → b ∈ S) ∧ ∀ p ∈ e, ∀ b, p.2.2.2.1.ownBlock = some b → b ∈ S := by
  have hg : ∀ b, u.ownBlock = some b → b ∈ S := at_row_memE (T := 41) (size := 5) (by decide) h (fun W k => by
    obtain ⟨e, k4, _⟩ := k
    exact ⟨_, _, _, k4⟩)
  obtain ⟨e, h4, hl, h5, h6⟩ := h.here
  refine ⟨e, h4, hl, h5, h6, hg, fun p hp b hb => ?_⟩
  obtain ⟨j, hj⟩ := List.mem_iff_getElem?.1 hp
  have hjl : j < l.length := by have := (List.getElem?_eq_some_iff.1 hj).1; omega
  obtain ⟨x, hx⟩ : ∃ x, l[j]? = some x := ⟨_, List.getElem?_eq_getElem hjl⟩
  obtain ⟨g, cap, rfl, _, _, _⟩ := own_form h4 (by omega)
  have hgS := hg g rfl
  have hc := h4.cellAt (j * 5 + 3) (by omega)
  rw [(flatE_get hj).2.2.2.1] at hc
  have h' : At S (fun W => OwnEP (.slice (some ⟨g, 0, none⟩) l.length cap) l W ∧ W.heap[g]? = w.heap[g]?) w := ⟨⟨h.here, rfl⟩, h.lt, fun W hk => ⟨h.stays W hk, hk g hgS⟩⟩
  refine at_row_memE (T := 3) (size := 1) (by decide) h' (fun W k => ?_) b hb
  obtain ⟨⟨e', k4, kl, k5, _⟩, kw⟩ := k
  obtain ⟨p', hp'⟩ : ∃ p', e'[j]? = some p' := ⟨_, List.getElem?_eq_getElem (by omega)⟩
  obtain ⟨_, _, _, _, ho'⟩ := k5 j x p' hx hp'
  have hc' := k4.cellAt (j * 5 + 3) (by omega)
  rw [(flatE_get hp').2.2.2.1] at hc'
  have e3 : W.cell? ⟨g, j * 5 + 3, none⟩ = w.cell? ⟨g, j * 5 + 3, none⟩ := World.cell?_of_block kw
  rw [e3, hc] at hc'
  rw [Option.some.inj hc']
  exact ⟨_, _, _, ho'⟩

/-! ### marks -/
def MarkedE (M : Int) (x : EI) (p : CE) (w : World) : Prop :=
  p.1 = markB M ∧ p.2.1 = markB (M + 1) ∧ p.2.2.1 = ((M + 1 + 1) % 3 == 0) ∧ p.2.2.2.2 = M + 1 + 1 + 1 + x.2.2.1.2.length ∧ MarkI p.2.2.2.1 x.2.2.1.2 (M + 1 + 1 + 1) w
/-- a slice of marks from m on -/
def MkEP (v : Value) (l : List EI) (m : Int) (w : World) : Prop :=
  ∃ e : List CE, w.ownsRow 0 41 5 v l.length (flatE e) ∧ e.length = l.length ∧ ∀ (j : Nat) x p, l[j]? = some x → e[j]? = some p → MarkedE (m + mkEL (l.take j)) x p w
theorem flatE_set {e : List CE} {k : Nat} {p : CE} (h : e[k]? = some p) (a b : ByteArray) (c : Bool) (n : Int) :
    ((((flatE e).set (k * 5) (.string a)).set (k * 5 + 1) (.string b)).set (k * 5 + 2) (.bool c)).set (k * 5 + 4) (.int .i64 n) = flatE (e.set k (a, b, c, p.2.2.2.1, n)) := by
  induction e generalizing k with
  | nil => simp at h
  | cons q e ih =>
    cases k with
    | zero =>
      obtain rfl : q = p := by simpa using h
      rfl
    | succ k =>
      have := ih (k := k) (by simpa using h)
      rw [show (k + 1) * 5 = k * 5 + 1 + 1 + 1 + 1 + 1 by omega, List.set_cons_succ]
      show _ = _ :: _ :: _ :: _ :: _ :: flatE (e.set k _)
      rw [← this]
      rfl
def MkRel (l : List EI) (e : List CE) (m : Int) (k : Nat) (f : List CE) (W : World) : Prop :=
  f.length = e.length ∧ (∀ (j : Nat) p q, e[j]? = some p → f[j]? = some q → q.2.2.2.1 = p.2.2.2.1) ∧ ∀ (j : Nat) x q, l[j]? = some x → f[j]? = some q → if j < k then MarkedE (m + mkEL (l.take j)) x q W else OwnI q.2.2.2.1 x.2.2.1.2 W
theorem mkRel_zero {l : List EI} {e : List CE} {m : Int} {w : World} (h : ∀ (j : Nat) x p, l[j]? = some x → e[j]? = some p → CellE p x w) : MkRel l e m 0 e w :=
  ⟨rfl, fun j p q hp hq => by rw [hp] at hq; cases hq; rfl, fun j x q hx hq => by rw [if_neg (Nat.not_lt_zero _)]; exact (h j x q hx hq).2.2.2.2⟩
theorem mkRel_step {l : List EI} {e f : List CE} {m z : Int} {k g : Nat} {W W' : World} {x : EI} {p : CE} (h : MkRel l e m k f W)
    (ha : ∀ (i j : Nat) p q b, e[i]? = some p → e[j]? = some q → p.2.2.2.1.ownBlock = some b → q.2.2.2.1.ownBlock = some b → i = j) (hg : ∀ (i : Nat) p b, e[i]? = some p → p.2.2.2.1.ownBlock = some b → ¬ g = b)
    (hx : l[k]? = some x) (hp : f[k]? = some p) (c : Chg (g :: p.2.2.2.1.ownBlock.toList) W W') (hz : z = m + mkEL (l.take k)) (hm : MarkI p.2.2.2.1 x.2.2.1.2 (z + 1 + 1 + 1) W') :
    MkRel l e m (k + 1) (f.set k (markB z, markB (z + 1), ((z + 1 + 1) % 3 == 0), p.2.2.2.1, z + 1 + 1 + 1 + x.2.2.1.2.length)) W' := by
  obtain ⟨h1, h2, h3⟩ := h
  have hkf := (List.getElem?_eq_some_iff.1 hp).1
  have hpe : ∀ (j : Nat) q, f[j]? = some q → ∃ p0, e[j]? = some p0 ∧ q.2.2.2.1 = p0.2.2.2.1 := fun j q hq => by
    have hj := (List.getElem?_eq_some_iff.1 hq).1
    exact ⟨_, List.getElem?_eq_getElem (by omega), h2 j _ q (List.getElem?_eq_getElem (by omega)) hq⟩
  refine ⟨by rw [List.length_set]; exact h1, fun j p0 q hp0 hq => ?_, fun j y q hy hq => ?_⟩
  · by_cases hj : k = j
    · subst hj
      rw [List.getElem?_set_self hkf] at hq
      cases hq
      exact h2 k p0 p hp0 hp
    · rw [List.getElem?_set_ne hj] at hq
      exact h2 j p0 q hp0 hq
  · by_cases hj : k = j
    · subst hj
      rw [List.getElem?_set_self hkf] at hq
      cases hq
      rw [hx] at hy
      cases hy
      rw [if_pos (Nat.lt_succ_self _)]
      subst hz
      exact ⟨rfl, rfl, rfl, rfl, hm⟩
    · rw [List.getElem?_set_ne hj] at hq
      have hthis := h3 j y q hy hq
      have hkeep : ∀ b, q.2.2.2.1.ownBlock = some b → b < W.heap.size → W'.heap[b]? = W.heap[b]? := fun b hb hlt => c.block b hlt (fun hmem => by
        obtain ⟨q0, hq0, eq0⟩ := hpe j q hq
        obtain ⟨p0, hp0, ep0⟩ := hpe k p hp
        rw [eq0] at hb
        rcases List.mem_cons.1 hmem with rfl | hmem
        · exact hg j q0 _ hq0 hb rfl
        · rw [ep0] at hmem
          exact hj (ha k j p0 q0 b hp0 hq0 (by simpa using hmem) hb))
      by_cases hjk : j < k
      · rw [if_pos hjk] at hthis
        rw [if_pos (by omega)]
        obtain ⟨a1, a2, a3, a4, a5⟩ := hthis
        exact ⟨a1, a2, a3, a4, own_stays a5 fun b hb => hkeep b hb (own_lt a5 hb).2⟩
      · rw [if_neg hjk] at hthis
        rw [if_neg (by omega)]
        exact own_stays hthis fun b hb => hkeep b hb (own_lt hthis hb).2
theorem mkRel_end {l : List EI} {e f : List CE} {m : Int} {W : World} {v : Value} (hl : e.length = l.length) (h : MkRel l e m l.length f W) (ho : W.ownsRow 0 41 5 v l.length (flatE f)) : MkEP v l m W :=
  ⟨f, ho, by rw [h.1, hl], fun j x p hx hp => by
    have := h.2.2 j x p hx hp
    rwa [if_pos (List.getElem?_eq_some_iff.1 hx).1] at this⟩
theorem MkEP.stays {v : Value} {l : List EI} {m : Int} {w w' : World} (h : MkEP v l m w) (hb : Below w.heap.size w w') : MkEP v l m w' := by
  obtain ⟨e, h1, h2, h3⟩ := h
  refine ⟨e, own_below h1 hb, h2, fun j x p hx hp => ?_⟩
  obtain ⟨a1, a2, a3, a4, a5⟩ := h3 j x p hx hp
  exact ⟨a1, a2, a3, a4, own_below a5 hb⟩
set_option maxHeartbeats 4000000 in
set_option maxRecDepth 100000 in
theorem markRateS_any (v : Value) (e : List CE) (l : List EI) (S : List Nat) (m : Int) (w : World) (hm : m + mkEL l ≤ 9223372036854775807) (hm0 : 0 ≤ m)
    (ho : w.ownsRow 0 41 5 v l.length (flatE e)) (hel : e.length = l.length) (hes : ∀ (j : Nat) x p, l[j]? = some x → e[j]? = some p → CellE p x w) (hap : ApartE v e) (hTv : ∀ b, v.ownBlock = some b → b ∈ S) (hTe : ∀ p ∈ e, ∀ b, p.2.2.2.1.ownBlock = some b → b ∈ S) :
    Calls Tryz.prog 83 #[v, .int .i64 m] w fun e' w' => e' = .returned (.int .i64 (m + mkEL l)) ∧ (∃ f, w'.ownsRow 0 41 5 v l.length (flatE f) ∧ MkRel l e m l.length f w') ∧ Chg S w w' := by
  have HEL := Lib.hid hel
  have hln := mkEL_nonneg l
  have hll : (l.length : Int) ≤ 9223372036854775807 := by have := mkEL_len l; omega
  have HR0 := Lib.hid (mkRel_zero (m := m) hes)
  have HAP := Lib.hid hap
  have HTV := Lib.hid hTv
  have HTE := Lib.hid hTe
  clear hes hel hap hTv hTe
  obtain ⟨A, c, rfl⟩ := own_lenE ho
  go_enter Tryz.func83, Tryz.ntmps83
  go_wp2
  go_loopw [1, 5] (fun a i wr => ∃ (k : Nat) (z : Int) (f : List CE), k ≤ l.length ∧ i = .int .i64 k ∧ a = .int .i64 z ∧ Hid (z = m + mkEL (l.take k)) ∧ wr.ownsRow 0 41 5 (.slice A l.length c) l.length (flatE f) ∧ Hid (MkRel l e m k f wr) ∧ Chg S w wr) (fun _ i _ => l.length - (intOf i).toNat)
  case atStart => exact ⟨0, m, e, Nat.zero_le _, rfl, rfl, Lib.hid (by rw [List.take_zero]; show _ = _ + (0 : Int); omega), ho, HR0, Chg.refl _ _⟩
  case round =>
    clear ho HR0
    obtain ⟨k, z, f, hk, rfl, rfl, HZ, ho, HRL, hc⟩ := hrel
    by_cases hlt : k < l.length
    · obtain ⟨x, hxk⟩ : ∃ x, l[k]? = some x := ⟨_, List.getElem?_eq_getElem hlt⟩
      obtain ⟨g, cap, ev, _, hgl, _⟩ := own_form ho (by omega)
      cases ev
      have hfl : f.length = l.length := HRL.out.1.trans HEL.out
      obtain ⟨p, hpk⟩ : ∃ p, f[k]? = some p := ⟨_, List.getElem?_eq_getElem (by omega)⟩
      have hxs : (flatE f).length = l.length * 5 := ho.1
      have HT := Lib.hid (mkEL_take hxk)
      have HTL := Lib.hid (mkEL_take_le l (k + 1))
      have HT0 := Lib.hid (mkEL_nonneg (l.take k))
      have hoi : OwnI p.2.2.2.1 x.2.2.1.2 wr := by
        have := HRL.out.2.2 k x p hxk hpk
        rwa [if_neg (Nat.lt_irrefl _)] at this
      obtain ⟨p0, hp0⟩ : ∃ p0, e[k]? = some p0 := ⟨_, List.getElem?_eq_getElem (by have := HEL.out; omega)⟩
      have hpp : p.2.2.2.1 = p0.2.2.2.1 := HRL.out.2.1 k p0 p hp0 hpk
      have hgp : ∀ b, p.2.2.2.1.ownBlock = some b → ¬ g = b := fun b hb he => HAP.out.2 k p0 b hp0 (hpp ▸ hb) (by rw [he]; rfl)
      have hgS : g ∈ S := HTV.out g rfl
      have hpS : ∀ b, p.2.2.2.1.ownBlock = some b → b ∈ S := fun b hb => HTE.out p0 (List.mem_of_getElem? hp0) b (hpp ▸ hb)
      have HSTEP := Lib.hid (show ∀ W', Chg (g :: p.2.2.2.1.ownBlock.toList) wr W' → MarkI p.2.2.2.1 x.2.2.1.2 (z + 1 + 1 + 1) W' → MkRel l e m (k + 1) (f.set k (markB z, markB (z + 1), ((z + 1 + 1) % 3 == 0), p.2.2.2.1, z + 1 + 1 + 1 + x.2.2.1.2.length)) W' from
        fun W' hcW hmW => mkRel_step HRL.out HAP.out.1 (fun i q b hq hb he => HAP.out.2 i q b hq hb (by rw [he]; rfl)) hxk hpk hcW HZ.out hmW)
      have HFS := Lib.hid (flatE_set hpk (markB z) (markB (z + 1)) ((z + 1 + 1) % 3 == 0) (z + 1 + 1 + 1 + x.2.2.1.2.length))
      have hx3 : (flatE f)[k * 5 + 3]? = some p.2.2.2.1 := (flatE_get hpk).2.2.2.1
      have hzb : 0 ≤ z ∧ z + 4 + x.2.2.1.2.length ≤ 9223372036854775807 ∧ z + 1 + 1 + 1 + x.2.2.1.2.length + 1 = m + mkEL (l.take (k + 1)) := by
        have h1 := HZ.out
        have h2 := HT.out
        have h3 := HTL.out
        have h4 := HT0.out
        omega
      have hz0 : 0 ≤ z := hzb.1
      have hz1 : z + 4 + x.2.2.1.2.length ≤ 9223372036854775807 := hzb.2.1
      have HZ2 := Lib.hid hzb.2.2
      have HO := Lib.hid ho
      have HC0 := Lib.hid hc
      have HX3 := Lib.hid hx3
      have HOI := Lib.hid hoi
      have HGP := Lib.hid hgp
      have HGS := Lib.hid (And.intro hgS hpS)
      have HXS := Lib.hid hxs
      have HC := Lib.hid (Chg.refl (g :: p.2.2.2.1.ownBlock.toList) wr)
      generalize p.2.2.2.1 = P at *
      generalize flatE f = xs at *
      clear hc hzb HT HTL HT0 ho hx3 hoi hgp hgS hpS HZ HRL hfl hpk hpp hxk hgl
      go_wp2_with fail
      refine (markText_any z _ (by omega)).mono ?_
      rintro e' w1 ⟨rfl, b1⟩
      have ho1 := own_below HO.out b1
      have hcell0 := ho1.cellAt (k * 5) (by omega)
      rw [List.getElem?_eq_getElem (by omega)] at hcell0
      have hfr0 := ho1.frozenAt (k * 5)
      obtain ⟨ho2, _⟩ := ho1.stored (k * 5) (.string (markB z))
      have H1 := Lib.hid ho2
      have H3 := Lib.hid (show OwnI P x.2.2.1.2 (w1.setCell ⟨g, k * 5, none⟩ (.string (markB z))) from own_stays (own_below HOI.out b1) fun i hi => by
        rw [Below.heap_setCell _ _ _ _ (Ne.symm (HGP.out i hi))])
      have HC1 := Lib.hid ((HC.out.trans (Chg.of_below b1)).setCell (p := ⟨g, k * 5, none⟩) (List.mem_cons_self ..) (.string (markB z)))
      clear ho1 ho2 HO HC HOI b1
      generalize hM : markB z = M at *
      go_wp2_with fail
      clear hcell0 hfr0
      refine (markText_any (z + 1) _ (by omega)).mono ?_
      rintro e' w2 ⟨rfl, b2⟩
      have ho3 := own_below H1.out b2
      have hcell1 := ho3.cellAt (k * 5 + 1) (by omega)
      have hcell2 := ho3.cellAt (k * 5 + 2) (by omega)
      rw [List.getElem?_eq_getElem (by rw [List.length_set]; omega)] at hcell1 hcell2
      have hcell3 := ho3.cellAt (k * 5 + 3) (by omega)
      rw [List.getElem?_set_ne (by omega), HX3.out] at hcell3
      have hfr1 := ho3.frozenAt (k * 5 + 1)
      have hfr2 := ho3.frozenAt (k * 5 + 2)
      obtain ⟨ho4, _⟩ := ho3.stored (k * 5 + 1) (.string (markB (z + 1)))
      obtain ⟨ho5, _⟩ := ho4.stored (k * 5 + 2) (.bool ((z + 1 + 1) % 3 == 0))
      have K1 := Lib.hid ho5
      have K3 := Lib.hid (show ((w2.setCell ⟨g, k * 5 + 1, none⟩ (.string (markB (z + 1)))).setCell ⟨g, k * 5 + 2, none⟩ (.bool ((z + 1 + 1) % 3 == 0))).ownsRow 0 3 1 P x.2.2.1.2.length (intsV x.2.2.1.2) from own_stays (own_below H3.out b2) fun i hi => by
        rw [Below.heap_setCell _ _ _ _ (Ne.symm (HGP.out i hi)), Below.heap_setCell _ _ _ _ (Ne.symm (HGP.out i hi))])
      have KC := Lib.hid (((HC1.out.trans (Chg.of_below b2)).setCell (p := ⟨g, k * 5 + 1, none⟩) (List.mem_cons_self ..) (.string (markB (z + 1)))).setCell (p := ⟨g, k * 5 + 2, none⟩) (List.mem_cons_self ..) (.bool ((z + 1 + 1) % 3 == 0)))
      clear ho3 ho4 ho5 H1 H3 HC1 b2
      generalize hM2 : markB (z + 1) = M2 at *
      go_wp2_with fail
      with_reducible refine (markIntS_any P x.2.2.1.2.length (intsV x.2.2.1.2) 0 (z + 1 + 1 + 1) _ (by omega) (by omega) K3.out).mono ?_
      rintro e' w3 ⟨rfl, o2, g2⟩
      clear hcell1 hcell2 hcell3 hfr1 hfr2
      have hlt2 := (own_lt K1.out (g := g) rfl).2
      have ho6 : w3.ownsRow 0 41 5 (.slice (some ⟨g, 0, none⟩) l.length c) l.length (((xs.set (k * 5) (.string M)).set (k * 5 + 1) (.string M2)).set (k * 5 + 2) (.bool ((z + 1 + 1) % 3 == 0))) := own_stays K1.out fun i hi => by
        cases hi
        exact g2.block g hlt2 (fun e => HGP.out g e.symm rfl)
      have hc2 := KC.out.trans ((Chg.of_grown g2).more (T := P.ownBlock.toList) fun i hi => List.mem_cons_of_mem _ hi)
      have hcell4 := ho6.cellAt (k * 5 + 4) (by omega)
      rw [List.getElem?_eq_getElem (by rw [List.length_set, List.length_set, List.length_set]; omega)] at hcell4
      have hfr4 := ho6.frozenAt (k * 5 + 4)
      obtain ⟨ho7, _⟩ := ho6.stored (k * 5 + 4) (.int .i64 (z + 1 + 1 + 1 + x.2.2.1.2.length))
      have HC7 := Lib.hid (hc2.setCell (p := ⟨g, k * 5 + 4, none⟩) (List.mem_cons_self ..) (.int .i64 (z + 1 + 1 + 1 + x.2.2.1.2.length)))
      have HM7 := Lib.hid (show MarkI P x.2.2.1.2 (z + 1 + 1 + 1) (w3.setCell ⟨g, k * 5 + 4, none⟩ (.int .i64 (z + 1 + 1 + 1 + x.2.2.1.2.length))) from own_stays o2 fun i hi => by
        rw [Below.heap_setCell _ _ _ _ (Ne.symm (HGP.out i hi))])
      have HR7 := Lib.hid (HSTEP.out _ HC7.out HM7.out)
      have HO7 := Lib.hid (HFS.out ▸ ho7)
      have HS7 := Lib.hid (HC0.out.trans (HC7.out.more fun i hi => by
        rcases List.mem_cons.1 hi with rfl | hi
        · exact HGS.out.1
        · exact HGS.out.2 i (by simpa using hi)))
      clear ho6 ho7 hc2 g2 o2 K1 K3 KC HSTEP HFS HC7 HM7
      go_wp2
      go_roundw
      case rel => exact ⟨k + 1, _, _, by omega, by go_num, rfl, HZ2, HO7.out, HR7, HS7.out⟩
      case measure => simp [intOf]; omega
    · obtain rfl : k = l.length := by omega
      have HV := Lib.hid (show m + mkEL l = z by
        have h3 := HZ.out
        rw [List.take_length] at h3
        omega)
      go_wp2
      go_ret
      exact ⟨ret_int HV.out.symm, ⟨f, ho, HRL.out⟩, hc⟩
end Go.Proofs.YtbpfabicampdkaaGreatDoor
