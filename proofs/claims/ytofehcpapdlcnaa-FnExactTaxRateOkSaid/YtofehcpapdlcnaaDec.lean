/-
  Values of type impl.Dec: what laws.toDec, eqDec, markDec, heldDec and szDec return; results that lie in their boxes.
-/
import Derived.Test.YtofehcpapdlcnaaLoc0
import Derived.Test.YtofehcpapdlcnaaDecNum
namespace Go.Proofs.Ytofehcpapdlcnaa
open Go.RowKit

/-- a value that stands for it, its limbs of the call's own -/
def OwnD (v : Value) (q : DI) (w : World) : Prop := ∃ u, v = .agg #[.bool q.1.1, u, .int .i64 q.2] ∧ OwnI u q.1.2 w
def MarkD (v : Value) (q : DI) (m : Int) (w : World) : Prop := ∃ u, v = .agg #[.bool q.1.1, u, .int .i64 q.2] ∧ MarkI u q.1.2 m w
/-- a value that reads as it -/
def RdD (w : World) (v : Value) (q : DI) : Prop := ∃ u, v = .agg #[.bool q.1.1, u, .int .i64 q.2] ∧ Row w 0 w.heap.size u (intsV q.1.2)
theorem OwnD.rd {v : Value} {q : DI} {w : World} (h : OwnD v q w) : RdD w v q := by
  obtain ⟨u, rfl, o⟩ := h
  exact ⟨u, rfl, o.row⟩
theorem OwnD.mk {u : Value} {q : DI} {w : World} (h : OwnI u q.1.2 w) : OwnD (.agg #[.bool q.1.1, u, .int .i64 q.2]) q w := ⟨u, rfl, h⟩
theorem OwnD.below {w W : World} {v : Value} {q : DI} (h : OwnD v q w) (hb : Below w.heap.size w W) : OwnD v q W := by
  obtain ⟨u, rfl, o⟩ := h
  exact ⟨u, rfl, own_below o hb⟩
theorem RdD.below {w W : World} {v : Value} {q : DI} (h : RdD w v q) (hb : Below w.heap.size w W) : RdD W v q := by
  obtain ⟨u, rfl, o⟩ := h
  exact ⟨u, rfl, (o.below hb (Nat.le_refl _)).wide (Nat.le_refl _) hb.size⟩
def capD (q : DI) : Prop := q.1.2.length ≤ 9223372036854775807
theorem szD_nonneg (q : DI) : 0 ≤ szD q := by unfold szD szS szI; omega
theorem szD_len {q : DI} (h : szD q ≤ 1048576) : q.1.2.length ≤ 1048576 := by unfold szD szS szI at h; omega
theorem capD_of {q : DI} (h : szD q ≤ 1048576) : capD q := by have := szD_len h; unfold capD; omega
theorem ownD_form {v : Value} {q : DI} {w : World} (h : OwnD v q w) : ∃ A c, v = .agg #[.bool q.1.1, .slice A q.1.2.length c, .int .i64 q.2] := by
  obtain ⟨u, rfl, o⟩ := h
  obtain ⟨A, c, rfl⟩ := own_len o
  exact ⟨A, c, rfl⟩
theorem rdD_form {v : Value} {q : DI} {w : World} (h : RdD w v q) : ∃ A c, v = .agg #[.bool q.1.1, .slice A q.1.2.length c, .int .i64 q.2] := by
  obtain ⟨u, rfl, o⟩ := h
  obtain ⟨A, c, rfl⟩ := row_form o
  rw [intsV_length]
  exact ⟨A, c, rfl⟩
theorem ownD_open {u c s : Value} {q : DI} {w : World} (h : OwnD (.agg #[c, u, s]) q w) : OwnI u q.1.2 w := by
  obtain ⟨u', e, hu⟩ := h
  injection e with e
  simp at e
  obtain ⟨_, e2, _⟩ := e
  subst e2
  exact hu
theorem ownS_openD {u c : Value} {x : SI} {w : World} (h : OwnS (.agg #[c, u]) x w) : OwnI u x.2 w := by
  obtain ⟨u', e, hu⟩ := h
  injection e with e
  simp at e
  obtain ⟨_, e2⟩ := e
  subst e2
  exact hu
/-- a value whose blocks stay while others are written -/
theorem newV_chg {φ : Value → World → Prop} {S T : List Nat} {v : Value} {w W : World} (o : At S (φ v) W) (hd : ∀ i ∈ S, i ∉ T) (hT : ∀ i ∈ T, w.heap.size ≤ i) (l : ∀ i ∈ S, w.heap.size ≤ i) (hW : Below w.heap.size w W) :
    ∀ W', Chg T W W' → NewV φ w (.returned v) W' :=
  fun _ hc => ⟨v, S, rfl, o.chg hc hd, fun i hi => ⟨l i hi, Nat.lt_of_lt_of_le (o.lt i hi) hc.size⟩, below_chg hW hc hW.size hT⟩
/-- what a call answers: a new decimal number and a bool -/
def PostDb (R0 : DI) (R1 : Bool) (w : World) (e : Ending) (w' : World) : Prop :=
  ∃ (v : Value) (S : List Nat), e = .returned (.tuple #[v, .bool R1]) ∧ At S (OwnD v R0) w' ∧ Within S w.heap.size w'.heap.size ∧ Below w.heap.size w w'
theorem postDb_is {q : DI × Bool} {X : DI} {b : Bool} (e : q = (X, b)) {w w' : World} {n : Ending} (h : PostDb q.1 q.2 w n w') : PostDb X b w n w' := by rw [e] at h; exact h
theorem postDb_eq {q p : DI × Bool} (e : q = p) {w w' : World} {n : Ending} (h : PostDb q.1 q.2 w n w') : PostDb p.1 p.2 w n w' := by rw [e] at h; exact h
theorem postn_eqD {a b : Int} (h : a = b) {w w' : World} {e : Ending} (k : Postn a w e w') : Postn b w e w' := h ▸ k
theorem newVD_eq {a b : DI} (e : a = b) {w w' : World} {n : Ending} (h : NewV (fun v => OwnD v a) w n w') : NewV (fun v => OwnD v b) w n w' := e ▸ h
theorem postDb_chg {S T : List Nat} {v : Value} {x : DI} {b : Bool} {w W : World} (o : At S (OwnD v x) W) (hd : ∀ i ∈ S, i ∉ T) (hT : ∀ i ∈ T, w.heap.size ≤ i) (l : ∀ i ∈ S, w.heap.size ≤ i) (hW : Below w.heap.size w W) :
    ∀ W', Chg T W W' → PostDb x b w (.returned (.tuple #[v, .bool b])) W' :=
  fun _ hc => ⟨v, S, rfl, o.chg hc hd, fun i hi => ⟨l i hi, Nat.lt_of_lt_of_le (o.lt i hi) hc.size⟩, below_chg hW hc hW.size hT⟩
theorem chg_set3 {r : Nat} {c0 c1 c2 : Value} {W : World} : Chg [r] W (((W.setCell ⟨r, 0, none⟩ c0).setCell ⟨r, 1, none⟩ c1).setCell ⟨r, 2, none⟩ c2) := (((Chg.refl _ _).setCell (by simp) _).setCell (by simp) _).setCell (by simp) _
/-- results that lie in their cells at block r -/
theorem newD_at {r B : Nat} {S : List Nat} {c0 c1 c2 : Value} {x : DI} {w W : World} (o : At S (OwnD (.agg #[c0, c1, c2]) x) W) (l : Within S B W.heap.size) (hrB : r < B) (hr : w.heap.size ≤ r) (hW : Below w.heap.size w W) :
    NewV (fun v => OwnD v x) w (.returned (.agg #[c0, c1, c2])) (((W.setCell ⟨r, 0, none⟩ c0).setCell ⟨r, 1, none⟩ c1).setCell ⟨r, 2, none⟩ c2) :=
  newV_chg o (fun i hi hm => by have := l i hi; simp at hm; omega) (fun i hi => by simp at hi; omega) (fun i hi => by have := l i hi; omega) hW _ chg_set3
theorem newDb_at {r B : Nat} {S : List Nat} {c0 c1 c2 : Value} {x : DI} {b : Bool} {w W : World} (o : At S (OwnD (.agg #[c0, c1, c2]) x) W) (l : Within S B W.heap.size) (hrB : r < B) (hr : w.heap.size ≤ r) (hW : Below w.heap.size w W) :
    PostDb x b w (.returned (.tuple #[.agg #[c0, c1, c2], .bool b])) (((W.setCell ⟨r, 0, none⟩ c0).setCell ⟨r, 1, none⟩ c1).setCell ⟨r, 2, none⟩ c2) :=
  postDb_chg o (fun i hi hm => by have := l i hi; simp at hm; omega) (fun i hi => by simp at hi; omega) (fun i hi => by have := l i hi; omega) hW _ chg_set3
theorem ownD_zero (w : World) : OwnD (.agg #[.bool false, .slice none 0 0, .int .i64 0]) zeroD w := ⟨_, rfl, World.ownsRow_nil _ _ _ _⟩
theorem atD_zero (w : World) : At [] (OwnD (.agg #[.bool false, .slice none 0 0, .int .i64 0]) zeroD) w := ⟨ownD_zero _, fun _ hg => absurd hg List.not_mem_nil, fun w' _ => ownD_zero w'⟩
theorem newDb_zero {w W : World} (b : Bool) (hW : Below w.heap.size w W) : PostDb zeroD b w (.returned (.tuple #[.agg #[.bool false, .slice none 0 0, .int .i64 0], .bool b])) W :=
  ⟨_, [], rfl, atD_zero _, fun _ hg => absurd hg List.not_mem_nil, hW⟩
theorem newD_zero {w W : World} (hW : Below w.heap.size w W) : NewV (fun v => OwnD v zeroD) w (.returned (.agg #[.bool false, .slice none 0 0, .int .i64 0])) W :=
  ⟨_, [], rfl, atD_zero _, fun _ hg => absurd hg List.not_mem_nil, hW⟩
set_option maxHeartbeats 400000 in
set_option maxRecDepth 100000 in
theorem eqD_cal (u v : Value) (x y : DI) (w : World) (hz : capD x) (hu : RdD w u x) (hv : RdD w v y) : Calls Try.prog 8 #[u, v] w (Postb (decide (x = y)) w) := by
  obtain ⟨p, rfl, hp⟩ := hu
  obtain ⟨q, rfl, hq⟩ := hv
  obtain ⟨Ap, cp, rfl⟩ := row_form hp
  obtain ⟨Aq, cq, rfl⟩ := row_form hq
  simp only [intsV_length] at hp hq ⊢
  have hb : Below w.heap.size w ((w.alloc (.cells #[.bool x.1.1, .slice Ap x.1.2.length cp, .int .i64 x.2] 31)).alloc (.cells #[.bool y.1.1, .slice Aq y.1.2.length cq, .int .i64 y.2] 31)) := below_al (below_al (Below.refl _ _) _) _
  have kx := (box_new w #[.bool x.1.1, .slice Ap x.1.2.length cp, .int .i64 x.2] 31).below (below_al (Below.refl _ _) (.cells #[.bool y.1.1, .slice Aq y.1.2.length cq, .int .i64 y.2] 31))
  have ky := box_new (w.alloc (.cells #[.bool x.1.1, .slice Ap x.1.2.length cp, .int .i64 x.2] 31)) #[.bool y.1.1, .slice Aq y.1.2.length cq, .int .i64 y.2] 31
  rw [show (w.alloc (.cells #[.bool x.1.1, .slice Ap x.1.2.length cp, .int .i64 x.2] 31)).heap.size = w.heap.size + 1 by simp] at ky
  go_enter Try.func8, Try.ntmps8
  go_wp2_with fail
  refine (eqSigned_at _ _ x.1 y.1 _ hz (rdS_below hp hb) (rdS_below hq hb)).mono ?_
  rintro e w1 ⟨rfl, b1⟩
  have bb1 := Below.next hb b1
  replace kx := kx.below b1
  replace ky := ky.below b1
  have cx2 := kx.here.cell 2 _ rfl
  have cy2 := ky.here.cell 2 _ rfl
  clear hp hq kx ky
  by_cases h1 : x.1 = y.1
  · rw [decide_eq_true h1]
    have H1 := Lib.hid h1
    clear h1
    by_cases h2 : x.2 = y.2
    · have HV := Lib.hid (show decide (x = y) = true from decide_eq_true (Prod.ext H1.out h2))
      have hq2 : (x.2 != y.2) = false := by rw [h2]; exact bne_self_eq_false _
      clear h2
      go_wp2
      go_ret
      exact ⟨ret_bool HV.out.symm, bb1⟩
    · have HV := Lib.hid (show decide (x = y) = false from decide_eq_false (fun e => h2 (by rw [e])))
      have hq2 : (x.2 != y.2) = true := by rw [bne_iff_ne]; exact h2
      clear h2
      go_wp2
      go_ret
      exact ⟨ret_bool HV.out.symm, bb1⟩
  · rw [decide_eq_false h1]
    have HV := Lib.hid (show decide (x = y) = false from decide_eq_false (fun e => h1 (by rw [e])))
    clear h1
    go_wp2
    go_ret
    exact ⟨ret_bool HV.out.symm, bb1⟩
set_option maxHeartbeats 400000 in
set_option maxRecDepth 100000 in
theorem szD_cal (v : Value) (x : DI) (left : Int) (w : World) (hl : capD x) (h0 : 0 ≤ left) (h1 : left ≤ 1048576) (h : RdD w v x) : Calls Try.prog 4 #[v, .int .i64 left] w (Postn (leftI left (szD x)) w) := by
  obtain ⟨p, rfl, hp⟩ := h
  obtain ⟨Ap, cp, rfl⟩ := row_form hp
  simp only [intsV_length] at hp ⊢
  have hb := below_al (Below.refl w.heap.size w) (.cells #[.bool x.1.1, .slice Ap x.1.2.length cp, .int .i64 x.2] 26)
  have kx := box_new w #[.bool x.1.1, .slice Ap x.1.2.length cp, .int .i64 x.2] 26
  have kx_c0 := kx.here.cell 0 _ rfl
  have kx_c1 := kx.here.cell 1 _ rfl
  go_enter Try.func4, Try.ntmps4
  go_wp2_with fail
  clear kx_c0 kx_c1 kx
  refine (szSigned_at _ x.1 left _ hl h0 h1 (rdS_below hp hb)).mono ?_
  rintro e w1 ⟨rfl, b1⟩
  have bb1 := Below.next hb b1
  have hq : leftI left (szS x.1) < 0 ∧ leftI left (szS x.1) = -1 ∨ ¬ leftI left (szS x.1) < 0 := by unfold leftI; split <;> omega
  obtain ⟨z, hz⟩ : ∃ z, leftI left (szS x.1) = z := ⟨_, rfl⟩
  have HL := Lib.hid (show leftI left (szD x) = z from hz)
  rw [hz] at hq ⊢
  clear hp hz
  rcases hq with ⟨h2, h3⟩ | h2
  · have hneg : decide (z < 0) = true := decide_eq_true h2
    have H3 := Lib.hid h3
    clear h2 h3
    go_wp2
    go_ret
    exact ⟨ret_int (H3.out.symm.trans HL.out.symm), bb1⟩
  · have hneg : decide (z < 0) = false := decide_eq_false h2
    clear h2
    go_wp2
    go_ret
    exact ⟨ret_int HL.out.symm, bb1⟩
set_option maxHeartbeats 1000000 in
set_option maxRecDepth 100000 in
theorem toD_new (v : Value) (x : DI) (w : World) (hz : szD x ≤ 1048576) (h : RdD w v x) : Calls Try.prog 6 #[v] w (NewV (fun u => OwnD u x) w) := by
  have hl := szD_len hz
  obtain ⟨p, rfl, hp⟩ := h
  obtain ⟨Ap, cp, rfl⟩ := row_form hp
  simp only [intsV_length] at hp ⊢
  have h3 := alloc3 w (.cells #[.bool x.1.1, .slice Ap x.1.2.length cp, .int .i64 x.2] 26) (.cells #[.bool false, .slice none 0 0, .int .i64 0] 31) (.cells #[.bool false, .slice none 0 0, .int .i64 0] 31)
  have hb3 := below3 w (.cells #[.bool x.1.1, .slice Ap x.1.2.length cp, .int .i64 x.2] 26) (.cells #[.bool false, .slice none 0 0, .int .i64 0] 31) (.cells #[.bool false, .slice none 0 0, .int .i64 0] 31)
  obtain ⟨W0, hW0⟩ : ∃ W0, W0 = (((w.alloc (.cells #[.bool x.1.1, .slice Ap x.1.2.length cp, .int .i64 x.2] 26)).alloc (.cells #[.bool false, .slice none 0 0, .int .i64 0] 31)).alloc (.cells #[.bool false, .slice none 0 0, .int .i64 0] 31)) := ⟨_, rfl⟩
  rw [← hW0] at h3 hb3
  have kb : At [w.heap.size] (BoxAt w.heap.size #[.bool x.1.1, .slice Ap x.1.2.length cp, .int .i64 x.2] 26) W0 := box_at h3.1
  have kr : At [w.heap.size + 1] (BoxAt (w.heap.size + 1) #[.bool false, .slice none 0 0, .int .i64 0] 31) W0 := box_at h3.2.1
  have ko : At [w.heap.size + 1 + 1] (BoxAt (w.heap.size + 1 + 1) #[.bool false, .slice none 0 0, .int .i64 0] 31) W0 := box_at h3.2.2.1
  have hz0 : W0.heap.size = w.heap.size + 3 := h3.2.2.2
  have HW := Lib.hid hW0
  clear h3 hW0
  have cb0 := kb.here.cell 0 _ rfl
  have cb1 := kb.here.cell 1 _ rfl
  go_enter Try.func6, Try.ntmps6
  go_wp2_with fail
  rw [← HW.out]
  refine (toSigned_at _ x.1 _ hl (rdS_below hp hb3)).mono ?_
  rintro e w1 ⟨u, rfl, o1, b1⟩
  obtain ⟨Au, cu, rfl⟩ := own_len o1
  have bb1 := Below.next hb3 b1
  replace kb := kb.below b1
  replace kr := kr.below b1
  replace ko := ko.below b1
  have HR := Lib.hid (newV_chg (φ := fun u => OwnD u x) (v := .agg #[.bool x.1.1, .slice Au x.1.2.length cu, .int .i64 x.2]) (T := [w.heap.size + 1, w.heap.size + 1 + 1]) ((own_at' o1).imp fun _ h => (OwnD.mk h : OwnD _ x _)) (fun i hi hm => by have := own_within o1 i hi; simp at hm; omega) (fun i hi => by simp at hi; omega) (fun i hi => by have := own_within o1 i hi; omega) bb1)
  have cb2 := kb.here.cell 2 _ rfl
  have co0 := ko.here.cell 0 _ rfl
  have co1 := ko.here.cell 1 _ rfl
  have co2 := ko.here.cell 2 _ rfl
  have fo0 := Lib.frozen_of_heap ko.here 0
  have fo1 := Lib.frozen_of_heap ko.here 1
  have fo2 := Lib.frozen_of_heap ko.here 2
  have cr0 := kr.here.cell 0 _ rfl
  have cr1 := kr.here.cell 1 _ rfl
  have cr2 := kr.here.cell 2 _ rfl
  have fr0 := Lib.frozen_of_heap kr.here 0
  have fr1 := Lib.frozen_of_heap kr.here 1
  have fr2 := Lib.frozen_of_heap kr.here 2
  clear kb kr ko o1 b1 bb1 hp cb0 cb1
  go_wp2
  refine bodyPost_ret (v := .agg #[.bool x.1.1, .slice Au x.1.2.length cu, .int .i64 x.2]) (by simp [results, Try.results6, go_sem, cr0, cr1, cr2]) rfl ?_
  exact HR.out _ ((((((Chg.refl _ _).setCell (by simp) _).setCell (by simp) _).setCell (by simp) _).setCell (by simp) _).setCell (by simp) _ |>.setCell (by simp) _)
end Go.Proofs.Ytofehcpapdlcnaa
