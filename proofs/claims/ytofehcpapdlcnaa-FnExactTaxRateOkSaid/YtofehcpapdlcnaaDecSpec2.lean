/-
  Chapter 8 of package spec: DecAdd, DecSub, DecMul, DecCmp.
-/
import Derived.Test.YtofehcpapdlcnaaDecSpec
import Derived.Deep.RegionHeld3
import Derived.IntWalk
namespace Go.Proofs.Ytofehcpapdlcnaa
open Go.RowKit

/-- what a call answers: two new signed numbers (and an int) -/
def PostSS (X Y : SI) (w : World) (e : Ending) (w' : World) : Prop :=
  ∃ (u v : Value) (S T : List Nat), e = .returned (.tuple #[u, v]) ∧ At S (OwnS u X) w' ∧ At T (OwnS v Y) w' ∧ Within S w.heap.size w'.heap.size ∧ Within T w.heap.size w'.heap.size ∧ Below w.heap.size w w'
def PostSSn (X Y : SI) (n : Int) (w : World) (e : Ending) (w' : World) : Prop :=
  ∃ (u v : Value) (S T : List Nat), e = .returned (.tuple #[u, v, .int .i64 n]) ∧ At S (OwnS u X) w' ∧ At T (OwnS v Y) w' ∧ Within S w.heap.size w'.heap.size ∧ Within T w.heap.size w'.heap.size ∧ Below w.heap.size w w'
theorem postSSn_chg {S T R : List Nat} {u v : Value} {X Y : SI} {n : Int} {w W : World} (o : At S (OwnS u X) W) (q : At T (OwnS v Y) W) (hS : ∀ i ∈ S, i ∉ R) (hT : ∀ i ∈ T, i ∉ R) (hR : ∀ i ∈ R, w.heap.size ≤ i) (lS : ∀ i ∈ S, w.heap.size ≤ i) (lT : ∀ i ∈ T, w.heap.size ≤ i) (hW : Below w.heap.size w W) :
    ∀ W', Chg R W W' → PostSSn X Y n w (.returned (.tuple #[u, v, .int .i64 n])) W' :=
  fun _ hc => ⟨u, v, S, T, rfl, o.chg hc hS, q.chg hc hT, fun i hi => ⟨lS i hi, Nat.lt_of_lt_of_le (o.lt i hi) hc.size⟩, fun i hi => ⟨lT i hi, Nat.lt_of_lt_of_le (q.lt i hi) hc.size⟩, below_chg hW hc hW.size hR⟩
theorem postSS_chg {S T R : List Nat} {u v : Value} {X Y : SI} {w W : World} (o : At S (OwnS u X) W) (q : At T (OwnS v Y) W) (hS : ∀ i ∈ S, i ∉ R) (hT : ∀ i ∈ T, i ∉ R) (hR : ∀ i ∈ R, w.heap.size ≤ i) (lS : ∀ i ∈ S, w.heap.size ≤ i) (lT : ∀ i ∈ T, w.heap.size ≤ i) (hW : Below w.heap.size w W) :
    ∀ W', Chg R W W' → PostSS X Y w (.returned (.tuple #[u, v])) W' :=
  fun _ hc => ⟨u, v, S, T, rfl, o.chg hc hS, q.chg hc hT, fun i hi => ⟨lS i hi, Nat.lt_of_lt_of_le (o.lt i hi) hc.size⟩, fun i hi => ⟨lT i hi, Nat.lt_of_lt_of_le (q.lt i hi) hc.size⟩, below_chg hW hc hW.size hR⟩
theorem newVS_eqD {x y : SI} (h : x = y) {w w' : World} {e : Ending} (k : NewV (fun v => OwnS v x) w e w') : NewV (fun v => OwnS v y) w e w' := h ▸ k
theorem newS_is {x y : SI} (h : x = y) {w w' : World} {e : Ending} (k : NewS x w e w') : NewV (fun v => OwnS v y) w e w' := by subst h; exact k.newV
/-- a number at the greater scale -/
def upS (a : DI) (s : Int) : SI := mulS a.1 (tenS (s - a.2))
theorem upS_len (a : DI) (s : Int) : (upS a s).2.length ≤ 50 := by unfold upS mulS; split; exact ofZ_len _; decide
theorem tenS_len (k : Int) : (tenS k).2.length ≤ 1048576 := by have := tenN_len k; show (tenN k).length ≤ _; omega
theorem topD_max (a b : DI) : max a.2 b.2 = topD a b := by unfold topD; split <;> omega
theorem topD_lt {a b : DI} (h : a.2 < b.2) : topD a b = b.2 := if_pos h
theorem topD_ge {a b : DI} (h : ¬ a.2 < b.2) : topD a b = a.2 := if_neg h
set_option maxHeartbeats 4000000 in
set_option maxRecDepth 100000 in
theorem l07Both_any (va vb : Value) (a b : DI) (w : World) (pa : okD a = true) (pb : okD b = true) (ha : OwnD va a w) (hb : OwnD vb b w) :
    Calls Try.prog 22 #[va, vb] w (PostSSn (upS a (topD a b)) (upS b (topD a b)) (topD a b) w) := by
  have Ha := Lib.hid ha
  obtain ⟨Aa, ca, rfl⟩ := ownD_form ha
  have ODa := Lib.hid (show ∀ W, Below w.heap.size w W → OwnD (.agg #[.bool a.1.1, .slice Aa a.1.2.length ca, .int .i64 a.2]) a W from fun W hb => OwnD.below Ha.out hb)
  have OIa := Lib.hid (show ∀ W, Below w.heap.size w W → OwnI (.slice Aa a.1.2.length ca) a.1.2 W from fun W hb => ownD_open (ODa.out W hb))
  have OSa := Lib.hid (show ∀ W, Below w.heap.size w W → OwnS (.agg #[.bool a.1.1, .slice Aa a.1.2.length ca]) a.1 W from fun W hb => OwnS.mk (OIa.out W hb))
  clear ha
  have Hb := Lib.hid hb
  obtain ⟨Ab, cb, rfl⟩ := ownD_form hb
  have ODb := Lib.hid (show ∀ W, Below w.heap.size w W → OwnD (.agg #[.bool b.1.1, .slice Ab b.1.2.length cb, .int .i64 b.2]) b W from fun W hb => OwnD.below Hb.out hb)
  have OIb := Lib.hid (show ∀ W, Below w.heap.size w W → OwnI (.slice Ab b.1.2.length cb) b.1.2 W from fun W hb => ownD_open (ODb.out W hb))
  have OSb := Lib.hid (show ∀ W, Below w.heap.size w W → OwnS (.agg #[.bool b.1.1, .slice Ab b.1.2.length cb]) b.1 W from fun W hb => OwnS.mk (OIb.out W hb))
  clear hb
  have qa := partsD pa
  have qb := partsD pb
  have la := qa.len
  have lb := qb.len
  have ta := qa.lo
  have ta2 := qa.hi
  have tb := qb.lo
  have tb2 := qb.hi
  clear qa qb pa pb
  have bb0 : Below w.heap.size w ((((w.alloc (.cells #[.bool a.1.1, .slice Aa a.1.2.length ca, .int .i64 a.2] 31)).alloc (.cells #[.bool b.1.1, .slice Ab b.1.2.length cb, .int .i64 b.2] 31)).alloc (.cells #[.bool false, .slice none 0 0] 29)).alloc (.cells #[.bool false, .slice none 0 0] 29)) := below_al (below_al (below_al (below_al (Below.refl _ _) _) _) _) _
  have ka := (box_new w #[.bool a.1.1, .slice Aa a.1.2.length ca, .int .i64 a.2] 31).below (below_al (below_al (below_al (Below.refl _ _) (.cells #[.bool b.1.1, .slice Ab b.1.2.length cb, .int .i64 b.2] 31)) (.cells #[.bool false, .slice none 0 0] 29)) (.cells #[.bool false, .slice none 0 0] 29))
  have kb := (box_new (w.alloc (.cells #[.bool a.1.1, .slice Aa a.1.2.length ca, .int .i64 a.2] 31)) #[.bool b.1.1, .slice Ab b.1.2.length cb, .int .i64 b.2] 31).below (below_al (below_al (Below.refl _ _) (.cells #[.bool false, .slice none 0 0] 29)) (.cells #[.bool false, .slice none 0 0] 29))
  rw [show (w.alloc (.cells #[.bool a.1.1, .slice Aa a.1.2.length ca, .int .i64 a.2] 31)).heap.size = w.heap.size + 1 by simp] at kb
  have kp := (box_new ((w.alloc (.cells #[.bool a.1.1, .slice Aa a.1.2.length ca, .int .i64 a.2] 31)).alloc (.cells #[.bool b.1.1, .slice Ab b.1.2.length cb, .int .i64 b.2] 31)) #[.bool false, .slice none 0 0] 29).below (below_al (Below.refl _ _) (.cells #[.bool false, .slice none 0 0] 29))
  rw [show ((w.alloc (.cells #[.bool a.1.1, .slice Aa a.1.2.length ca, .int .i64 a.2] 31)).alloc (.cells #[.bool b.1.1, .slice Ab b.1.2.length cb, .int .i64 b.2] 31)).heap.size = w.heap.size + 1 + 1 by simp] at kp
  have kq := (box_new (((w.alloc (.cells #[.bool a.1.1, .slice Aa a.1.2.length ca, .int .i64 a.2] 31)).alloc (.cells #[.bool b.1.1, .slice Ab b.1.2.length cb, .int .i64 b.2] 31)).alloc (.cells #[.bool false, .slice none 0 0] 29)) #[.bool false, .slice none 0 0] 29)
  rw [show (((w.alloc (.cells #[.bool a.1.1, .slice Aa a.1.2.length ca, .int .i64 a.2] 31)).alloc (.cells #[.bool b.1.1, .slice Ab b.1.2.length cb, .int .i64 b.2] 31)).alloc (.cells #[.bool false, .slice none 0 0] 29)).heap.size = w.heap.size + 1 + 1 + 1 by simp] at kq
  have HKP := Lib.hid (kp.lt (w.heap.size + 1 + 1) (by simp))
  have HKQ := Lib.hid (kq.lt (w.heap.size + 1 + 1 + 1) (by simp))
  obtain ⟨W0, hW0⟩ : ∃ W0, W0 = ((((w.alloc (.cells #[.bool a.1.1, .slice Aa a.1.2.length ca, .int .i64 a.2] 31)).alloc (.cells #[.bool b.1.1, .slice Ab b.1.2.length cb, .int .i64 b.2] 31)).alloc (.cells #[.bool false, .slice none 0 0] 29)).alloc (.cells #[.bool false, .slice none 0 0] 29)) := ⟨_, rfl⟩
  rw [← hW0] at bb0 ka kb kp kq HKP HKQ
  have HW0 := Lib.hid hW0
  clear hW0
  by_cases hlt : a.2 < b.2
  · have ET := Lib.hid (topD_lt hlt)
    rw [ET.out]
    have hw0 : IntKind.i64.wrap 0 = 0 := IntWalk.i64_in _ (by omega)
    obtain ⟨ja, hja⟩ : ∃ j, IntKind.i64.wrap (b.2 - a.2) = j := ⟨_, rfl⟩
    have hka : ja = b.2 - a.2 := by rw [← hja]; exact IntWalk.i64_in _ (by omega)
    have Ea := Lib.hid (show mulS a.1 (tenS ja) = upS a (b.2) by rw [hka]; rfl)
    clear hka
    have Eb := Lib.hid (show mulS b.1 (tenS 0) = upS b (b.2) by unfold upS; rw [Int.sub_self])
    obtain ⟨X, hX⟩ : ∃ X, upS a (b.2) = X := ⟨_, rfl⟩
    obtain ⟨Y, hY⟩ : ∃ Y, upS b (b.2) = Y := ⟨_, rfl⟩
    rw [hX] at Ea
    rw [hY] at Eb
    rw [hX, hY]
    clear hX hY
    go_enter Try.func22, Try.ntmps22
    have hko := HKP.out
    have hko2 := HKQ.out
    have ka_c0 := ka.here.cell 0 _ rfl
    have ka_c1 := ka.here.cell 1 _ rfl
    have ka_c2 := ka.here.cell 2 _ rfl
    have kb_c0 := kb.here.cell 0 _ rfl
    have kb_c1 := kb.here.cell 1 _ rfl
    have kb_c2 := kb.here.cell 2 _ rfl
    rw [HW0.out] at ka_c0 ka_c1 ka_c2 kb_c0 kb_c1 kb_c2
    go_wp2_with fail
    rw [← HW0.out]
    clear ka_c0 ka_c1 ka_c2 kb_c0 kb_c1 kb_c2
    have HC0 := Lib.hid (show Chg [w.heap.size + 1 + 1, w.heap.size + 1 + 1 + 1] W0 W0.drew from (Chg.refl _ _).drew1)
    have HCr := Lib.hid (show Chg [w.heap.size + 1 + 1, w.heap.size + 1 + 1 + 1] W0 W0 from Chg.refl _ _)
    have KL := Lib.hid (show ∀ W, Chg [w.heap.size + 1 + 1, w.heap.size + 1 + 1 + 1] W0 W → W.cell? ⟨w.heap.size, 0, none⟩ = some (.bool a.1.1) ∧ W.cell? ⟨w.heap.size, 1, none⟩ = some (.slice Aa a.1.2.length ca) ∧ W.cell? ⟨w.heap.size, 2, none⟩ = some (.int .i64 a.2) ∧ W.cell? ⟨w.heap.size + 1, 0, none⟩ = some (.bool b.1.1) ∧ W.cell? ⟨w.heap.size + 1, 1, none⟩ = some (.slice Ab b.1.2.length cb) ∧ W.cell? ⟨w.heap.size + 1, 2, none⟩ = some (.int .i64 b.2) ∧ Hid (Chg [w.heap.size + 1 + 1, w.heap.size + 1 + 1 + 1] W0 W) from fun W hc => ⟨(ka.chg hc (fun i hi hm => by simp at hi hm; omega)).here.cell 0 _ rfl, (ka.chg hc (fun i hi hm => by simp at hi hm; omega)).here.cell 1 _ rfl, (ka.chg hc (fun i hi hm => by simp at hi hm; omega)).here.cell 2 _ rfl, (kb.chg hc (fun i hi hm => by simp at hi hm; omega)).here.cell 0 _ rfl, (kb.chg hc (fun i hi hm => by simp at hi hm; omega)).here.cell 1 _ rfl, (kb.chg hc (fun i hi hm => by simp at hi hm; omega)).here.cell 2 _ rfl, Lib.hid hc⟩)
    have BBF := Lib.hid (show ∀ W, Chg [w.heap.size + 1 + 1, w.heap.size + 1 + 1 + 1] W0 W → Below w.heap.size w W from fun W hc => below_chg bb0 hc bb0.size (fun i hi => by simp at hi; omega))
    go_region_held3 (fun W => W.cell? ⟨w.heap.size, 0, none⟩ = some (.bool a.1.1) ∧ W.cell? ⟨w.heap.size, 1, none⟩ = some (.slice Aa a.1.2.length ca) ∧ W.cell? ⟨w.heap.size, 2, none⟩ = some (.int .i64 a.2) ∧ W.cell? ⟨w.heap.size + 1, 0, none⟩ = some (.bool b.1.1) ∧ W.cell? ⟨w.heap.size + 1, 1, none⟩ = some (.slice Ab b.1.2.length cb) ∧ W.cell? ⟨w.heap.size + 1, 2, none⟩ = some (.int .i64 b.2) ∧ Hid (Chg [w.heap.size + 1 + 1, w.heap.size + 1 + 1 + 1] W0 W))
      ((refine KL.out _ ?_; (repeat with_reducible refine Chg.setCell ?_ (by simp) _); (first | with_reducible exact HC4.out | with_reducible exact HC3.out | with_reducible exact HC2.out | with_reducible exact HC1.out | with_reducible exact HCr.out | with_reducible exact HC0.out | with_reducible exact HC4.out.drew1 | with_reducible exact HC3.out.drew1 | with_reducible exact HC2.out.drew1 | with_reducible exact HC1.out.drew1 | with_reducible exact HCr.out.drew1 | with_reducible exact HC0.out.drew1 | fail)))
      (first
        | (go_at_call 34; (have hBB := (‹_ ∧ _ ∧ _ ∧ _ ∧ _ ∧ _ ∧ Hid (Chg [w.heap.size + 1 + 1, w.heap.size + 1 + 1 + 1] W0 _)›).2.2.2.2.2.2); (with_reducible refine (l07Ten_any ja _).mono ?_); rintro e w1 ⟨ut1, St1, rfl, ot1, lt1, b1⟩; have HC1 := Lib.hid (hBB.out.trans (Chg.of_below b1)); (have kp_1 := At.below (by first | exact kp | exact At.below kp (below_al (Below.refl _ _) _) | exact At.below (At.below kp (below_al (Below.refl _ _) _)) (below_al (Below.refl _ _) _) | exact At.move kp (fun _ _ => rfl) (Nat.le_refl _)) b1); (have kq_1 := At.below (by first | exact kq | exact At.below kq (below_al (Below.refl _ _) _) | exact At.below (At.below kq (below_al (Below.refl _ _) _)) (below_al (Below.refl _ _) _) | exact At.move kq (fun _ _ => rfl) (Nat.le_refl _)) b1); obtain ⟨At1, ct1, rfl⟩ := ownS_form ot1.here; have HBZ1 := Lib.hid hBB.out.size; clear hBB)
        | (go_at_call 33; (have hBB := (‹_ ∧ _ ∧ _ ∧ _ ∧ _ ∧ _ ∧ Hid (Chg [w.heap.size + 1 + 1, w.heap.size + 1 + 1 + 1] W0 _)›).2.2.2.2.2.2); (with_reducible refine ((specIntMul_any _ _ a.1 (tenS ja) _ (by omega) (tenS_len _) (OSa.out _ (BBF.out _ hBB.out)) (At.here (by first | exact ot1 | exact At.below ot1 (below_al (Below.refl _ _) _) | exact At.below (At.below ot1 (below_al (Below.refl _ _) _)) (below_al (Below.refl _ _) _) | exact At.move ot1 (fun _ _ => rfl) (Nat.le_refl _)))).mono fun _ _ h => newS_is Ea.out h).mono ?_); rintro e w2 ⟨um1, Sm1, rfl, om1, lm1, b2⟩; have HC2 := Lib.hid (hBB.out.trans (Chg.of_below b2)); (have kp_2 := At.below (by first | exact kp_1 | exact At.below kp_1 (below_al (Below.refl _ _) _) | exact At.below (At.below kp_1 (below_al (Below.refl _ _) _)) (below_al (Below.refl _ _) _) | exact At.move kp_1 (fun _ _ => rfl) (Nat.le_refl _)) b2); (have kq_2 := At.below (by first | exact kq_1 | exact At.below kq_1 (below_al (Below.refl _ _) _) | exact At.below (At.below kq_1 (below_al (Below.refl _ _) _)) (below_al (Below.refl _ _) _) | exact At.move kq_1 (fun _ _ => rfl) (Nat.le_refl _)) b2); (have ot1_2 := At.below (by first | exact ot1 | exact At.below ot1 (below_al (Below.refl _ _) _) | exact At.below (At.below ot1 (below_al (Below.refl _ _) _)) (below_al (Below.refl _ _) _) | exact At.move ot1 (fun _ _ => rfl) (Nat.le_refl _)) b2); obtain ⟨Am1, cm1, rfl⟩ := ownS_form om1.here; have HBZ2 := Lib.hid hBB.out.size; clear hBB)
        | (go_at_call 34; (have hBB := (‹_ ∧ _ ∧ _ ∧ _ ∧ _ ∧ _ ∧ Hid (Chg [w.heap.size + 1 + 1, w.heap.size + 1 + 1 + 1] W0 _)›).2.2.2.2.2.2); (with_reducible refine (l07Ten_any 0 _).mono ?_); rintro e w3 ⟨ut2, St2, rfl, ot2, lt2, b3⟩; have HC3 := Lib.hid (hBB.out.trans (Chg.of_below b3)); (have kp_3 := At.below (by first | exact kp_2 | exact At.below kp_2 (below_al (Below.refl _ _) _) | exact At.below (At.below kp_2 (below_al (Below.refl _ _) _)) (below_al (Below.refl _ _) _) | exact At.move kp_2 (fun _ _ => rfl) (Nat.le_refl _)) b3); (have kq_3 := At.below (by first | exact kq_2 | exact At.below kq_2 (below_al (Below.refl _ _) _) | exact At.below (At.below kq_2 (below_al (Below.refl _ _) _)) (below_al (Below.refl _ _) _) | exact At.move kq_2 (fun _ _ => rfl) (Nat.le_refl _)) b3); (have ot1_3 := At.below (by first | exact ot1_2 | exact At.below ot1_2 (below_al (Below.refl _ _) _) | exact At.below (At.below ot1_2 (below_al (Below.refl _ _) _)) (below_al (Below.refl _ _) _) | exact At.move ot1_2 (fun _ _ => rfl) (Nat.le_refl _)) b3); (have om1_3 := At.below (by first | exact om1 | exact At.below om1 (below_al (Below.refl _ _) _) | exact At.below (At.below om1 (below_al (Below.refl _ _) _)) (below_al (Below.refl _ _) _) | exact At.move om1 (fun _ _ => rfl) (Nat.le_refl _)) b3); obtain ⟨At2, ct2, rfl⟩ := ownS_form ot2.here; have HBZ3 := Lib.hid hBB.out.size; clear hBB)
        | (go_at_call 33; (have hBB := (‹_ ∧ _ ∧ _ ∧ _ ∧ _ ∧ _ ∧ Hid (Chg [w.heap.size + 1 + 1, w.heap.size + 1 + 1 + 1] W0 _)›).2.2.2.2.2.2); (with_reducible refine ((specIntMul_any _ _ b.1 (tenS 0) _ (by omega) (tenS_len _) (OSb.out _ (BBF.out _ hBB.out)) (At.here (by first | exact ot2 | exact At.below ot2 (below_al (Below.refl _ _) _) | exact At.below (At.below ot2 (below_al (Below.refl _ _) _)) (below_al (Below.refl _ _) _) | exact At.move ot2 (fun _ _ => rfl) (Nat.le_refl _)))).mono fun _ _ h => newS_is Eb.out h).mono ?_); rintro e w4 ⟨um2, Sm2, rfl, om2, lm2, b4⟩; have HC4 := Lib.hid (hBB.out.trans (Chg.of_below b4)); (have kp_4 := At.below (by first | exact kp_3 | exact At.below kp_3 (below_al (Below.refl _ _) _) | exact At.below (At.below kp_3 (below_al (Below.refl _ _) _)) (below_al (Below.refl _ _) _) | exact At.move kp_3 (fun _ _ => rfl) (Nat.le_refl _)) b4); (have kq_4 := At.below (by first | exact kq_3 | exact At.below kq_3 (below_al (Below.refl _ _) _) | exact At.below (At.below kq_3 (below_al (Below.refl _ _) _)) (below_al (Below.refl _ _) _) | exact At.move kq_3 (fun _ _ => rfl) (Nat.le_refl _)) b4); (have ot1_4 := At.below (by first | exact ot1_3 | exact At.below ot1_3 (below_al (Below.refl _ _) _) | exact At.below (At.below ot1_3 (below_al (Below.refl _ _) _)) (below_al (Below.refl _ _) _) | exact At.move ot1_3 (fun _ _ => rfl) (Nat.le_refl _)) b4); (have om1_4 := At.below (by first | exact om1_3 | exact At.below om1_3 (below_al (Below.refl _ _) _) | exact At.below (At.below om1_3 (below_al (Below.refl _ _) _)) (below_al (Below.refl _ _) _) | exact At.move om1_3 (fun _ _ => rfl) (Nat.le_refl _)) b4); (have ot2_4 := At.below (by first | exact ot2 | exact At.below ot2 (below_al (Below.refl _ _) _) | exact At.below (At.below ot2 (below_al (Below.refl _ _) _)) (below_al (Below.refl _ _) _) | exact At.move ot2 (fun _ _ => rfl) (Nat.le_refl _)) b4); obtain ⟨Am2, cm2, rfl⟩ := ownS_form om2.here; have czp0 := kp_4.here.cell 0 _ rfl; have fzp0 := Lib.frozen_of_heap kp_4.here 0; have czp1 := kp_4.here.cell 1 _ rfl; have fzp1 := Lib.frozen_of_heap kp_4.here 1; have czq0 := kq_4.here.cell 0 _ rfl; have fzq0 := Lib.frozen_of_heap kq_4.here 0; have czq1 := kq_4.here.cell 1 _ rfl; have fzq1 := Lib.frozen_of_heap kq_4.here 1; have HBZ4 := Lib.hid hBB.out.size; clear hBB))
    have bb4 := BBF.out _ HC4.out
    replace ka := ka.chg HC4.out (fun i hi hm => by simp at hi hm; omega)
    replace kb := kb.chg HC4.out (fun i hi hm => by simp at hi hm; omega)
    replace kp := kp_4
    replace kq := kq_4
    have ot1 := ot1_4
    have om1 := om1_4
    have ot2 := ot2_4
    have z1 := HBZ4.out
    have zb1 := HBZ1.out
    have zb2 := HBZ2.out
    have zb3 := HBZ3.out
    have HW := Lib.hid (postSSn_chg (n := b.2) (R := [w.heap.size + 1 + 1, w.heap.size + 1 + 1 + 1]) om1 om2 (fun i hi hm => by have := lm1 i hi; simp at hm; omega) (fun i hi hm => by have := lm2 i hi; simp at hm; omega) (fun i hi => by simp at hi; omega) (fun i hi => by have := lm1 i hi; omega) (fun i hi => by have := lm2 i hi; omega) bb4)
    go_wp2
    refine bodyPost_ret (v := .tuple #[.agg #[.bool X.1, .slice Am1 X.2.length cm1], .agg #[.bool Y.1, .slice Am2 Y.2.length cm2], .int .i64 (b.2)]) (by simp [results, Try.results22, go_sem, czp0, czp1, czq0, czq1]) rfl ?_
    refine HW.out _ ?_
    repeat (first | exact Chg.refl _ _ | refine Chg.setCell ?_ (by simp) _)
  · have ET := Lib.hid (topD_ge hlt)
    rw [ET.out]
    have hw0 : IntKind.i64.wrap 0 = 0 := IntWalk.i64_in _ (by omega)
    have Ea := Lib.hid (show mulS a.1 (tenS 0) = upS a (a.2) by unfold upS; rw [Int.sub_self])
    obtain ⟨jb, hjb⟩ : ∃ j, IntKind.i64.wrap (a.2 - b.2) = j := ⟨_, rfl⟩
    have hkb : jb = a.2 - b.2 := by rw [← hjb]; exact IntWalk.i64_in _ (by omega)
    have Eb := Lib.hid (show mulS b.1 (tenS jb) = upS b (a.2) by rw [hkb]; rfl)
    clear hkb
    obtain ⟨X, hX⟩ : ∃ X, upS a (a.2) = X := ⟨_, rfl⟩
    obtain ⟨Y, hY⟩ : ∃ Y, upS b (a.2) = Y := ⟨_, rfl⟩
    rw [hX] at Ea
    rw [hY] at Eb
    rw [hX, hY]
    clear hX hY
    go_enter Try.func22, Try.ntmps22
    have hko := HKP.out
    have hko2 := HKQ.out
    have ka_c0 := ka.here.cell 0 _ rfl
    have ka_c1 := ka.here.cell 1 _ rfl
    have ka_c2 := ka.here.cell 2 _ rfl
    have kb_c0 := kb.here.cell 0 _ rfl
    have kb_c1 := kb.here.cell 1 _ rfl
    have kb_c2 := kb.here.cell 2 _ rfl
    rw [HW0.out] at ka_c0 ka_c1 ka_c2 kb_c0 kb_c1 kb_c2
    go_wp2_with fail
    rw [← HW0.out]
    clear ka_c0 ka_c1 ka_c2 kb_c0 kb_c1 kb_c2
    have HC0 := Lib.hid (show Chg [w.heap.size + 1 + 1, w.heap.size + 1 + 1 + 1] W0 W0.drew from (Chg.refl _ _).drew1)
    have HCr := Lib.hid (show Chg [w.heap.size + 1 + 1, w.heap.size + 1 + 1 + 1] W0 W0 from Chg.refl _ _)
    have KL := Lib.hid (show ∀ W, Chg [w.heap.size + 1 + 1, w.heap.size + 1 + 1 + 1] W0 W → W.cell? ⟨w.heap.size, 0, none⟩ = some (.bool a.1.1) ∧ W.cell? ⟨w.heap.size, 1, none⟩ = some (.slice Aa a.1.2.length ca) ∧ W.cell? ⟨w.heap.size, 2, none⟩ = some (.int .i64 a.2) ∧ W.cell? ⟨w.heap.size + 1, 0, none⟩ = some (.bool b.1.1) ∧ W.cell? ⟨w.heap.size + 1, 1, none⟩ = some (.slice Ab b.1.2.length cb) ∧ W.cell? ⟨w.heap.size + 1, 2, none⟩ = some (.int .i64 b.2) ∧ Hid (Chg [w.heap.size + 1 + 1, w.heap.size + 1 + 1 + 1] W0 W) from fun W hc => ⟨(ka.chg hc (fun i hi hm => by simp at hi hm; omega)).here.cell 0 _ rfl, (ka.chg hc (fun i hi hm => by simp at hi hm; omega)).here.cell 1 _ rfl, (ka.chg hc (fun i hi hm => by simp at hi hm; omega)).here.cell 2 _ rfl, (kb.chg hc (fun i hi hm => by simp at hi hm; omega)).here.cell 0 _ rfl, (kb.chg hc (fun i hi hm => by simp at hi hm; omega)).here.cell 1 _ rfl, (kb.chg hc (fun i hi hm => by simp at hi hm; omega)).here.cell 2 _ rfl, Lib.hid hc⟩)
    have BBF := Lib.hid (show ∀ W, Chg [w.heap.size + 1 + 1, w.heap.size + 1 + 1 + 1] W0 W → Below w.heap.size w W from fun W hc => below_chg bb0 hc bb0.size (fun i hi => by simp at hi; omega))
    go_region_held3 (fun W => W.cell? ⟨w.heap.size, 0, none⟩ = some (.bool a.1.1) ∧ W.cell? ⟨w.heap.size, 1, none⟩ = some (.slice Aa a.1.2.length ca) ∧ W.cell? ⟨w.heap.size, 2, none⟩ = some (.int .i64 a.2) ∧ W.cell? ⟨w.heap.size + 1, 0, none⟩ = some (.bool b.1.1) ∧ W.cell? ⟨w.heap.size + 1, 1, none⟩ = some (.slice Ab b.1.2.length cb) ∧ W.cell? ⟨w.heap.size + 1, 2, none⟩ = some (.int .i64 b.2) ∧ Hid (Chg [w.heap.size + 1 + 1, w.heap.size + 1 + 1 + 1] W0 W))
      ((refine KL.out _ ?_; (repeat with_reducible refine Chg.setCell ?_ (by simp) _); (first | with_reducible exact HC4.out | with_reducible exact HC3.out | with_reducible exact HC2.out | with_reducible exact HC1.out | with_reducible exact HCr.out | with_reducible exact HC0.out | with_reducible exact HC4.out.drew1 | with_reducible exact HC3.out.drew1 | with_reducible exact HC2.out.drew1 | with_reducible exact HC1.out.drew1 | with_reducible exact HCr.out.drew1 | with_reducible exact HC0.out.drew1 | fail)))
      (first
        | (go_at_call 34; (have hBB := (‹_ ∧ _ ∧ _ ∧ _ ∧ _ ∧ _ ∧ Hid (Chg [w.heap.size + 1 + 1, w.heap.size + 1 + 1 + 1] W0 _)›).2.2.2.2.2.2); (with_reducible refine (l07Ten_any 0 _).mono ?_); rintro e w1 ⟨ut1, St1, rfl, ot1, lt1, b1⟩; have HC1 := Lib.hid (hBB.out.trans (Chg.of_below b1)); (have kp_1 := At.below (by first | exact kp | exact At.below kp (below_al (Below.refl _ _) _) | exact At.below (At.below kp (below_al (Below.refl _ _) _)) (below_al (Below.refl _ _) _) | exact At.move kp (fun _ _ => rfl) (Nat.le_refl _)) b1); (have kq_1 := At.below (by first | exact kq | exact At.below kq (below_al (Below.refl _ _) _) | exact At.below (At.below kq (below_al (Below.refl _ _) _)) (below_al (Below.refl _ _) _) | exact At.move kq (fun _ _ => rfl) (Nat.le_refl _)) b1); obtain ⟨At1, ct1, rfl⟩ := ownS_form ot1.here; have HBZ1 := Lib.hid hBB.out.size; clear hBB)
        | (go_at_call 33; (have hBB := (‹_ ∧ _ ∧ _ ∧ _ ∧ _ ∧ _ ∧ Hid (Chg [w.heap.size + 1 + 1, w.heap.size + 1 + 1 + 1] W0 _)›).2.2.2.2.2.2); (with_reducible refine ((specIntMul_any _ _ a.1 (tenS 0) _ (by omega) (tenS_len _) (OSa.out _ (BBF.out _ hBB.out)) (At.here (by first | exact ot1 | exact At.below ot1 (below_al (Below.refl _ _) _) | exact At.below (At.below ot1 (below_al (Below.refl _ _) _)) (below_al (Below.refl _ _) _) | exact At.move ot1 (fun _ _ => rfl) (Nat.le_refl _)))).mono fun _ _ h => newS_is Ea.out h).mono ?_); rintro e w2 ⟨um1, Sm1, rfl, om1, lm1, b2⟩; have HC2 := Lib.hid (hBB.out.trans (Chg.of_below b2)); (have kp_2 := At.below (by first | exact kp_1 | exact At.below kp_1 (below_al (Below.refl _ _) _) | exact At.below (At.below kp_1 (below_al (Below.refl _ _) _)) (below_al (Below.refl _ _) _) | exact At.move kp_1 (fun _ _ => rfl) (Nat.le_refl _)) b2); (have kq_2 := At.below (by first | exact kq_1 | exact At.below kq_1 (below_al (Below.refl _ _) _) | exact At.below (At.below kq_1 (below_al (Below.refl _ _) _)) (below_al (Below.refl _ _) _) | exact At.move kq_1 (fun _ _ => rfl) (Nat.le_refl _)) b2); (have ot1_2 := At.below (by first | exact ot1 | exact At.below ot1 (below_al (Below.refl _ _) _) | exact At.below (At.below ot1 (below_al (Below.refl _ _) _)) (below_al (Below.refl _ _) _) | exact At.move ot1 (fun _ _ => rfl) (Nat.le_refl _)) b2); obtain ⟨Am1, cm1, rfl⟩ := ownS_form om1.here; have HBZ2 := Lib.hid hBB.out.size; clear hBB)
        | (go_at_call 34; (have hBB := (‹_ ∧ _ ∧ _ ∧ _ ∧ _ ∧ _ ∧ Hid (Chg [w.heap.size + 1 + 1, w.heap.size + 1 + 1 + 1] W0 _)›).2.2.2.2.2.2); (with_reducible refine (l07Ten_any jb _).mono ?_); rintro e w3 ⟨ut2, St2, rfl, ot2, lt2, b3⟩; have HC3 := Lib.hid (hBB.out.trans (Chg.of_below b3)); (have kp_3 := At.below (by first | exact kp_2 | exact At.below kp_2 (below_al (Below.refl _ _) _) | exact At.below (At.below kp_2 (below_al (Below.refl _ _) _)) (below_al (Below.refl _ _) _) | exact At.move kp_2 (fun _ _ => rfl) (Nat.le_refl _)) b3); (have kq_3 := At.below (by first | exact kq_2 | exact At.below kq_2 (below_al (Below.refl _ _) _) | exact At.below (At.below kq_2 (below_al (Below.refl _ _) _)) (below_al (Below.refl _ _) _) | exact At.move kq_2 (fun _ _ => rfl) (Nat.le_refl _)) b3); (have ot1_3 := At.below (by first | exact ot1_2 | exact At.below ot1_2 (below_al (Below.refl _ _) _) | exact At.below (At.below ot1_2 (below_al (Below.refl _ _) _)) (below_al (Below.refl _ _) _) | exact At.move ot1_2 (fun _ _ => rfl) (Nat.le_refl _)) b3); (have om1_3 := At.below (by first | exact om1 | exact At.below om1 (below_al (Below.refl _ _) _) | exact At.below (At.below om1 (below_al (Below.refl _ _) _)) (below_al (Below.refl _ _) _) | exact At.move om1 (fun _ _ => rfl) (Nat.le_refl _)) b3); obtain ⟨At2, ct2, rfl⟩ := ownS_form ot2.here; have HBZ3 := Lib.hid hBB.out.size; clear hBB)
        | (go_at_call 33; (have hBB := (‹_ ∧ _ ∧ _ ∧ _ ∧ _ ∧ _ ∧ Hid (Chg [w.heap.size + 1 + 1, w.heap.size + 1 + 1 + 1] W0 _)›).2.2.2.2.2.2); (with_reducible refine ((specIntMul_any _ _ b.1 (tenS jb) _ (by omega) (tenS_len _) (OSb.out _ (BBF.out _ hBB.out)) (At.here (by first | exact ot2 | exact At.below ot2 (below_al (Below.refl _ _) _) | exact At.below (At.below ot2 (below_al (Below.refl _ _) _)) (below_al (Below.refl _ _) _) | exact At.move ot2 (fun _ _ => rfl) (Nat.le_refl _)))).mono fun _ _ h => newS_is Eb.out h).mono ?_); rintro e w4 ⟨um2, Sm2, rfl, om2, lm2, b4⟩; have HC4 := Lib.hid (hBB.out.trans (Chg.of_below b4)); (have kp_4 := At.below (by first | exact kp_3 | exact At.below kp_3 (below_al (Below.refl _ _) _) | exact At.below (At.below kp_3 (below_al (Below.refl _ _) _)) (below_al (Below.refl _ _) _) | exact At.move kp_3 (fun _ _ => rfl) (Nat.le_refl _)) b4); (have kq_4 := At.below (by first | exact kq_3 | exact At.below kq_3 (below_al (Below.refl _ _) _) | exact At.below (At.below kq_3 (below_al (Below.refl _ _) _)) (below_al (Below.refl _ _) _) | exact At.move kq_3 (fun _ _ => rfl) (Nat.le_refl _)) b4); (have ot1_4 := At.below (by first | exact ot1_3 | exact At.below ot1_3 (below_al (Below.refl _ _) _) | exact At.below (At.below ot1_3 (below_al (Below.refl _ _) _)) (below_al (Below.refl _ _) _) | exact At.move ot1_3 (fun _ _ => rfl) (Nat.le_refl _)) b4); (have om1_4 := At.below (by first | exact om1_3 | exact At.below om1_3 (below_al (Below.refl _ _) _) | exact At.below (At.below om1_3 (below_al (Below.refl _ _) _)) (below_al (Below.refl _ _) _) | exact At.move om1_3 (fun _ _ => rfl) (Nat.le_refl _)) b4); (have ot2_4 := At.below (by first | exact ot2 | exact At.below ot2 (below_al (Below.refl _ _) _) | exact At.below (At.below ot2 (below_al (Below.refl _ _) _)) (below_al (Below.refl _ _) _) | exact At.move ot2 (fun _ _ => rfl) (Nat.le_refl _)) b4); obtain ⟨Am2, cm2, rfl⟩ := ownS_form om2.here; have czp0 := kp_4.here.cell 0 _ rfl; have fzp0 := Lib.frozen_of_heap kp_4.here 0; have czp1 := kp_4.here.cell 1 _ rfl; have fzp1 := Lib.frozen_of_heap kp_4.here 1; have czq0 := kq_4.here.cell 0 _ rfl; have fzq0 := Lib.frozen_of_heap kq_4.here 0; have czq1 := kq_4.here.cell 1 _ rfl; have fzq1 := Lib.frozen_of_heap kq_4.here 1; have HBZ4 := Lib.hid hBB.out.size; clear hBB))
    have bb4 := BBF.out _ HC4.out
    replace ka := ka.chg HC4.out (fun i hi hm => by simp at hi hm; omega)
    replace kb := kb.chg HC4.out (fun i hi hm => by simp at hi hm; omega)
    replace kp := kp_4
    replace kq := kq_4
    have ot1 := ot1_4
    have om1 := om1_4
    have ot2 := ot2_4
    have z1 := HBZ4.out
    have zb1 := HBZ1.out
    have zb2 := HBZ2.out
    have zb3 := HBZ3.out
    have HW := Lib.hid (postSSn_chg (n := a.2) (R := [w.heap.size + 1 + 1, w.heap.size + 1 + 1 + 1]) om1 om2 (fun i hi hm => by have := lm1 i hi; simp at hm; omega) (fun i hi hm => by have := lm2 i hi; simp at hm; omega) (fun i hi => by simp at hi; omega) (fun i hi => by have := lm1 i hi; omega) (fun i hi => by have := lm2 i hi; omega) bb4)
    go_wp2
    refine bodyPost_ret (v := .tuple #[.agg #[.bool X.1, .slice Am1 X.2.length cm1], .agg #[.bool Y.1, .slice Am2 Y.2.length cm2], .int .i64 (a.2)]) (by simp [results, Try.results22, go_sem, czp0, czp1, czq0, czq1]) rfl ?_
    refine HW.out _ ?_
    repeat (first | exact Chg.refl _ _ | refine Chg.setCell ?_ (by simp) _)
set_option maxHeartbeats 4000000 in
set_option maxRecDepth 100000 in
theorem specDecCmp_any (va vb : Value) (a b : DI) (w : World) (hla : a.1.2.length ≤ 1048576) (hlb : b.1.2.length ≤ 1048576) (ha : OwnD va a w) (hb : OwnD vb b w) :
    Calls Try.prog 11 #[va, vb] w (Postn (cmpD a b) w) := by
  have Ha := Lib.hid ha
  obtain ⟨Aa, ca, rfl⟩ := ownD_form ha
  have ODa := Lib.hid (show ∀ W, Below w.heap.size w W → OwnD (.agg #[.bool a.1.1, .slice Aa a.1.2.length ca, .int .i64 a.2]) a W from fun W hb => OwnD.below Ha.out hb)
  have OIa := Lib.hid (show ∀ W, Below w.heap.size w W → OwnI (.slice Aa a.1.2.length ca) a.1.2 W from fun W hb => ownD_open (ODa.out W hb))
  have OSa := Lib.hid (show ∀ W, Below w.heap.size w W → OwnS (.agg #[.bool a.1.1, .slice Aa a.1.2.length ca]) a.1 W from fun W hb => OwnS.mk (OIa.out W hb))
  clear ha
  have Hb := Lib.hid hb
  obtain ⟨Ab, cb, rfl⟩ := ownD_form hb
  have ODb := Lib.hid (show ∀ W, Below w.heap.size w W → OwnD (.agg #[.bool b.1.1, .slice Ab b.1.2.length cb, .int .i64 b.2]) b W from fun W hb => OwnD.below Hb.out hb)
  have OIb := Lib.hid (show ∀ W, Below w.heap.size w W → OwnI (.slice Ab b.1.2.length cb) b.1.2 W from fun W hb => ownD_open (ODb.out W hb))
  have OSb := Lib.hid (show ∀ W, Below w.heap.size w W → OwnS (.agg #[.bool b.1.1, .slice Ab b.1.2.length cb]) b.1 W from fun W hb => OwnS.mk (OIb.out W hb))
  clear hb
  have bb0 : Below w.heap.size w ((w.alloc (.cells #[.bool a.1.1, .slice Aa a.1.2.length ca, .int .i64 a.2] 31)).alloc (.cells #[.bool b.1.1, .slice Ab b.1.2.length cb, .int .i64 b.2] 31)) := below_al (below_al (Below.refl _ _) _) _
  have ka := (box_new w #[.bool a.1.1, .slice Aa a.1.2.length ca, .int .i64 a.2] 31).below (below_al (Below.refl _ _) (.cells #[.bool b.1.1, .slice Ab b.1.2.length cb, .int .i64 b.2] 31))
  have kb := (box_new (w.alloc (.cells #[.bool a.1.1, .slice Aa a.1.2.length ca, .int .i64 a.2] 31)) #[.bool b.1.1, .slice Ab b.1.2.length cb, .int .i64 b.2] 31)
  rw [show (w.alloc (.cells #[.bool a.1.1, .slice Aa a.1.2.length ca, .int .i64 a.2] 31)).heap.size = w.heap.size + 1 by simp] at kb
  go_enter Try.func11, Try.ntmps11
  have ka_c0 := ka.here.cell 0 _ rfl
  have ka_c1 := ka.here.cell 1 _ rfl
  have ka_c2 := ka.here.cell 2 _ rfl
  go_wp2_with fail
  clear ka_c0 ka_c1 ka_c2
  refine (specDecOk_any _ a _ hla (ODa.out _ bb0)).mono ?_
  rintro e w1 ⟨rfl, b1⟩
  have bb1 := Below.next bb0 b1
  replace ka := ka.below b1
  replace kb := kb.below b1
  by_cases oka : okD a = true
  · rw [oka]
    have HOa := Lib.hid oka
    clear oka
    have kb_c0 := kb.here.cell 0 _ rfl
    have kb_c1 := kb.here.cell 1 _ rfl
    have kb_c2 := kb.here.cell 2 _ rfl
    go_wp2_with fail
    clear kb_c0 kb_c1 kb_c2
    refine (specDecOk_any _ b _ hlb (ODb.out _ bb1)).mono ?_
    rintro e w2 ⟨rfl, b2⟩
    have bb2 := Below.next bb1 b2
    replace ka := ka.below b2
    replace kb := kb.below b2
    by_cases okb : okD b = true
    · rw [okb]
      have HOb := Lib.hid okb
      clear okb
      have HV := Lib.hid (show cmpS (upS a (topD a b)) (upS b (topD a b)) = cmpD a b from cmpD_is HOa.out HOb.out)
      have hX := upS_len a (topD a b)
      have hY := upS_len b (topD a b)
      have C := l07Both_any _ _ a b _ HOa.out HOb.out (ODa.out _ bb2) (ODb.out _ bb2)
      generalize upS a (topD a b) = X at *
      generalize upS b (topD a b) = Y at *
      generalize topD a b = s at *
      have HC := Lib.hid C
      clear C
      have ka_c0 := ka.here.cell 0 _ rfl
      have ka_c1 := ka.here.cell 1 _ rfl
      have ka_c2 := ka.here.cell 2 _ rfl
      have kb_c0 := kb.here.cell 0 _ rfl
      have kb_c1 := kb.here.cell 1 _ rfl
      have kb_c2 := kb.here.cell 2 _ rfl
      go_wp2_with fail
      clear ka_c0 ka_c1 ka_c2 kb_c0 kb_c1 kb_c2
      refine (HC.out).mono ?_
      rintro e w3 ⟨ux, uy, Sx, Sy, rfl, ox, oy, lx, ly, b3⟩
      obtain ⟨Ax, cx, rfl⟩ := ownS_form ox.here
      obtain ⟨Ay, cy, rfl⟩ := ownS_form oy.here
      have bb3 := Below.next bb2 b3
      replace ka := ka.below b3
      replace kb := kb.below b3
      clear ka kb
      have kx := box_new (w3) #[.bool X.1, .slice Ax X.2.length cx] 29
      have alx := below_al (Below.refl (w3).heap.size (w3)) (.cells #[.bool X.1, .slice Ax X.2.length cx] 29)
      have bbx := Below.next bb3 alx
      replace ox := ox.below alx
      replace oy := oy.below alx
      have ky := box_new (w3.alloc (.cells #[.bool X.1, .slice Ax X.2.length cx] 29)) #[.bool Y.1, .slice Ay Y.2.length cy] 29
      have aly := below_al (Below.refl (w3.alloc (.cells #[.bool X.1, .slice Ax X.2.length cx] 29)).heap.size (w3.alloc (.cells #[.bool X.1, .slice Ax X.2.length cx] 29))) (.cells #[.bool Y.1, .slice Ay Y.2.length cy] 29)
      have bby := Below.next bbx aly
      replace ox := ox.below aly
      replace oy := oy.below aly
      replace kx := kx.below aly
      rw [show (w3.alloc (.cells #[.bool X.1, .slice Ax X.2.length cx] 29)).heap.size = w3.heap.size + 1 by simp] at ky
      have kx_c0 := kx.here.cell 0 _ rfl
      have kx_c1 := kx.here.cell 1 _ rfl
      have ky_c0 := ky.here.cell 0 _ rfl
      have ky_c1 := ky.here.cell 1 _ rfl
      go_wp2_with fail
      clear kx_c0 kx_c1 ky_c0 ky_c1
      refine ((specIntCmp_any _ _ X Y _ (by omega) (by omega) ox.here oy.here).mono fun _ _ h => postn_eqD HV.out h).mono ?_
      rintro e w4 ⟨rfl, b4⟩
      have bb4 := Below.next bby b4
      replace ox := ox.below b4
      replace oy := oy.below b4
      replace kx := kx.below b4
      replace ky := ky.below b4
      clear kx ky
      go_wp2
      go_ret
      exact ⟨rfl, bb4⟩
    · have okb' : okD b = false := by simpa using okb
      have HV := Lib.hid (show cmpD a b = 0 by unfold cmpD; rw [if_neg (fun h => okb h.2)])
      rw [okb']
      clear okb okb'
      go_wp2
      go_ret
      exact ⟨ret_int HV.out.symm, bb2⟩
  · have oka' : okD a = false := by simpa using oka
    have HV := Lib.hid (show cmpD a b = 0 by unfold cmpD; rw [if_neg (fun h => oka h.1)])
    rw [oka']
    clear oka oka'
    go_wp2
    go_ret
    exact ⟨ret_int HV.out.symm, bb1⟩
end Go.Proofs.Ytofehcpapdlcnaa
