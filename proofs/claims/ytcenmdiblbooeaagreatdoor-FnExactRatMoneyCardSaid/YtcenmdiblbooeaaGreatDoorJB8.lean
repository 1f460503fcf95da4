/-
  Chapter 7 of package impl: what its functions return.
  Chapter 7 of package impl: RatFloor, RatWhole, RatHalf.
  RatRest of package impl.
  Spec's look-ups over its table of currencies, a list that a call lays.
  Spec's look-ups by code.
  Chapter 10 of package spec: what its functions return that need no fractions and no texts.
  Impl's look-ups by code, where they scan the table.
  Chapter 10 of package impl: what its functions return that need no fractions, no texts and no lists.
  Chapter 10 of package impl: RatMoney.
-/
import Derived.Deep.RegionHeld3
import Derived.Shelf.Abstract
import Derived.Deep.MidRow
import Derived.Test.YtcenmdiblbooeaaGreatDoorJB7
namespace Go.Proofs.YtcenmdiblbooeaaGreatDoor
open Go.RowKit

theorem nat_lt50 {X : Nat} (h : (limbs X).length ≤ 19) : ((X + X : Nat) : Int) < bp 50 ∧ ((X + 1 : Nat) : Int) < bp 50 := by
  have h1 := nval_lt (limbs X) (limbs_digN X)
  rw [limbs_val] at h1
  have h2 : bp (limbs X).length ≤ bp 19 := bp_mono h
  have h3 : bp 20 ≤ bp 50 := bp_mono (by omega)
  have h4 : bp 20 = 1000000000 * bp 19 := rfl
  have := bp_pos 19
  omega
theorem cmpN_limbs {X Y : Nat} (hx : (limbs X).length ≤ 50) (hy : (limbs Y).length ≤ 50) : cmpN (limbs X) (limbs Y) = cmpI X Y := by
  unfold cmpN
  rw [if_pos ⟨limbs_okL _ hx, limbs_okL _ hy⟩, limbs_val, limbs_val]
theorem divN_rat {r : QI} (h : okQ r = true) : divN r.1.2 r.2 = (limbs (topN r / denQ r), limbs (topN r % denQ r)) := by
  have p := okQ_parts h
  unfold divN
  rw [if_pos ⟨(okS_parts p.1).1, p.2.1, p.2.2.1⟩, quot_of h, rest_of h]
theorem twoRows_eq {a b c d : List Int} {w w' : World} {e : Ending} (h : TwoRows a b w e w') (h1 : a = c) (h2 : b = d) : TwoRows c d w e w' := by subst h1 h2; exact h
theorem newI_eq {a b : List Int} {w w' : World} {e : Ending} (h : NewInts a w e w') (h1 : a = b) : NewInts b w e w' := by subst h1; exact h
set_option maxHeartbeats 2000000 in
set_option maxRecDepth 100000 in
theorem overHalf_any (Aq Ar Ad : Option Addr) (cq cr cd : Nat) (neg : Bool) (Q R D : Nat) (w : World) (_ : (limbs Q).length ≤ 50) (hrl : (limbs R).length ≤ 18) (hdl : (limbs D).length ≤ 18) (_ : OwnI (.slice Aq (limbs Q).length cq) (limbs Q) w) (or_ : OwnI (.slice Ar (limbs R).length cr) (limbs R) w) (od : OwnI (.slice Ad (limbs D).length cd) (limbs D) w) :
    Calls Tryz.prog 202 #[.agg #[.bool neg, .slice Aq (limbs Q).length cq, .slice Ar (limbs R).length cr, .slice Ad (limbs D).length cd]] w (Postn (cmpI ((R : Int) + R + 0) D) w) := by
  have Hr := Lib.hid (show ∀ W, Below w.heap.size w W → OwnI (.slice Ar (limbs R).length cr) (limbs R) W from fun W hb => OwnI.belowI or_ hb)
  have Hd := Lib.hid (show ∀ W, Below w.heap.size w W → OwnI (.slice Ad (limbs D).length cd) (limbs D) W from fun W hb => OwnI.belowI od hb)
  clear or_ od
  have bb0 : Below w.heap.size w (w.alloc (.cells #[.bool neg, .slice Aq (limbs Q).length cq, .slice Ar (limbs R).length cr, .slice Ad (limbs D).length cd] 198)) := below_al (Below.refl _ _) _
  have ks := (box_new w #[.bool neg, .slice Aq (limbs Q).length cq, .slice Ar (limbs R).length cr, .slice Ad (limbs D).length cd] 198)
  obtain ⟨z, hz⟩ : ∃ z, cmpI ((R : Int) + R + 0) D = z := ⟨_, rfl⟩
  have EA := Lib.hid (addN_small (nat_lt50 (X := R) (by omega)).1)
  have h2l : (limbs (R + R)).length ≤ 50 := limbs_length_le _ 50 (nat_lt50 (X := R) (by omega)).1
  have EZ := Lib.hid (show cmpN (limbs (R + R)) (limbs D) = z by rw [cmpN_limbs h2l (by omega), ← hz, Int.natCast_add, Int.add_zero])
  rw [hz]
  clear hz
  have HCM := Lib.hid (show ∀ (u v : Value) (W : World), OwnI u (limbs (R + R)) W → OwnI v (limbs D) W → Calls Tryz.prog 173 #[u, v] W (Postn z W) from fun u v W h1 h3 => (implNatCmp_any u v (limbs (R + R)) (limbs D) 0 _ 0 _ W (by omega) (by omega) (Nat.le_refl _) (Nat.le_refl _) h1.row h3.row).mono fun _ _ h => postn_eq EZ.out h)
  obtain ⟨W0, hW0⟩ : ∃ W0, W0 = (w.alloc (.cells #[.bool neg, .slice Aq (limbs Q).length cq, .slice Ar (limbs R).length cr, .slice Ad (limbs D).length cd] 198)) := ⟨_, rfl⟩
  rw [← hW0] at bb0 ks
  have HW0 := Lib.hid hW0
  clear hW0
  go_enter Tryz.func202, Tryz.ntmps202
  have ks_c0 := ks.here.cell 0 _ rfl
  have ks_c1 := ks.here.cell 1 _ rfl
  have ks_c2 := ks.here.cell 2 _ rfl
  have ks_c3 := ks.here.cell 3 _ rfl
  go_wp2_with fail
  rw [← HW0.out]
  have HC0 := Lib.hid (show Chg [] W0 W0.drew from (Chg.refl _ _).drew1)
  have HCr := Lib.hid (show Chg [] W0 W0 from Chg.refl _ _)
  have KL := Lib.hid (show ∀ W, Chg [] W0 W → W.cell? ⟨w.heap.size, 0, none⟩ = some (.bool neg) ∧ W.cell? ⟨w.heap.size, 1, none⟩ = some (.slice Aq (limbs Q).length cq) ∧ W.cell? ⟨w.heap.size, 2, none⟩ = some (.slice Ar (limbs R).length cr) ∧ W.cell? ⟨w.heap.size, 3, none⟩ = some (.slice Ad (limbs D).length cd) ∧ Hid (Chg [] W0 W) from fun W hc => ⟨(ks.chg hc (fun i hi hm => by simp at hm)).here.cell 0 _ rfl, (ks.chg hc (fun i hi hm => by simp at hm)).here.cell 1 _ rfl, (ks.chg hc (fun i hi hm => by simp at hm)).here.cell 2 _ rfl, (ks.chg hc (fun i hi hm => by simp at hm)).here.cell 3 _ rfl, Lib.hid hc⟩)
  have BBF := Lib.hid (show ∀ W, Chg [] W0 W → Below w.heap.size w W from fun W hc => below_chg bb0 hc bb0.size (fun i hi => by simp at hi))
  clear ks_c0 ks_c1 ks_c2 ks_c3
  go_region_held3 (fun W => W.cell? ⟨w.heap.size, 0, none⟩ = some (.bool neg) ∧ W.cell? ⟨w.heap.size, 1, none⟩ = some (.slice Aq (limbs Q).length cq) ∧ W.cell? ⟨w.heap.size, 2, none⟩ = some (.slice Ar (limbs R).length cr) ∧ W.cell? ⟨w.heap.size, 3, none⟩ = some (.slice Ad (limbs D).length cd) ∧ Hid (Chg [] W0 W))
    ((refine KL.out _ ?_; (first | exact HC2.out | exact HC1.out | exact HCr.out | exact HC0.out | exact HC2.out.drew1 | exact HC1.out.drew1 | exact HCr.out.drew1 | exact HC0.out.drew1 | exact HC2.out.trans (Chg.of_below (below_al (Below.refl _ _) _)) | exact HC1.out.trans (Chg.of_below (below_al (Below.refl _ _) _)) | exact HCr.out.trans (Chg.of_below (below_al (Below.refl _ _) _)) | exact HC0.out.trans (Chg.of_below (below_al (Below.refl _ _) _)) | fail)))
    (first
      | (go_at_call 177; (have hBB := (‹_ ∧ _ ∧ _ ∧ _ ∧ Hid (Chg [] W0 _)›).2.2.2.2); (with_reducible refine ((implNatAdd_any _ _ (limbs R) (limbs R) 0 _ 0 _ _ (by omega) (by omega) (Nat.le_refl _) (Nat.le_refl _) (OwnI.row (Hr.out _ (BBF.out _ hBB.out))) (OwnI.row (Hr.out _ (BBF.out _ hBB.out)))).mono fun _ _ h => (newI_eq h EA.out).newV).mono ?_); rintro e w1 ⟨ua, Sa, rfl, oa, la, b1⟩; have HC1 := Lib.hid (hBB.out.trans (Chg.of_below b1)); obtain ⟨Ea, ea, rfl⟩ := own_len oa.here; have HBZ1 := Lib.hid hBB.out.size; clear hBB)
      | (go_at_call 173; (have hBB := (‹_ ∧ _ ∧ _ ∧ _ ∧ Hid (Chg [] W0 _)›).2.2.2.2); (with_reducible refine (HCM.out _ _ _ (At.here (by first | exact oa | exact At.below oa (below_al (Below.refl _ _) _) | exact At.below (At.below oa (below_al (Below.refl _ _) _)) (below_al (Below.refl _ _) _) | exact At.move oa (fun _ _ => rfl) (Nat.le_refl _))) (Hd.out _ (BBF.out _ hBB.out))).mono ?_); rintro e w2 ⟨rfl, b2⟩; have HC2 := Lib.hid (hBB.out.trans (Chg.of_below b2)); (have oa_2 := At.below (by first | exact oa | exact At.below oa (below_al (Below.refl _ _) _) | exact At.below (At.below oa (below_al (Below.refl _ _) _)) (below_al (Below.refl _ _) _) | exact At.move oa (fun _ _ => rfl) (Nat.le_refl _)) b2); have HBZ2 := Lib.hid hBB.out.size; clear hBB))
  have bb2 := BBF.out _ HC2.out
  replace ks := ks.chg HC2.out (fun i hi hm => by simp at hm)
  have oa := oa_2
  go_wp2
  go_ret
  exact ⟨rfl, bb2⟩
set_option maxHeartbeats 1000000 in
set_option maxRecDepth 100000 in
theorem farther_0 (Aq Ar Ad : Option Addr) (cq cr cd : Nat) (neg : Bool) (Q R D : Nat) (w : World) (_ : (limbs Q).length ≤ 50) (_ : (limbs R).length ≤ 18) (_ : (limbs D).length ≤ 18) (_ : OwnI (.slice Aq (limbs Q).length cq) (limbs Q) w) (_ : OwnI (.slice Ar (limbs R).length cr) (limbs R) w) (_ : OwnI (.slice Ad (limbs D).length cd) (limbs D) w) :
    Calls Tryz.prog 197 #[.agg #[.bool neg, .slice Aq (limbs Q).length cq, .slice Ar (limbs R).length cr, .slice Ad (limbs D).length cd]] w (Postb (awayB neg Q R D 0) w) := by
  have bb0 : Below w.heap.size w (w.alloc (.cells #[.bool neg, .slice Aq (limbs Q).length cq, .slice Ar (limbs R).length cr, .slice Ad (limbs D).length cd] 198)) := below_al (Below.refl _ _) _
  have ks := (box_new w #[.bool neg, .slice Aq (limbs Q).length cq, .slice Ar (limbs R).length cr, .slice Ad (limbs D).length cd] 198)
  go_enter Tryz.func197, Tryz.ntmps197
  go_wp2
  go_ret
  exact ⟨ret_bool (rfl), bb0⟩
set_option maxHeartbeats 1000000 in
set_option maxRecDepth 100000 in
theorem farther_1 (Aq Ar Ad : Option Addr) (cq cr cd : Nat) (neg : Bool) (Q R D : Nat) (w : World) (_ : (limbs Q).length ≤ 50) (_ : (limbs R).length ≤ 18) (_ : (limbs D).length ≤ 18) (_ : OwnI (.slice Aq (limbs Q).length cq) (limbs Q) w) (_ : OwnI (.slice Ar (limbs R).length cr) (limbs R) w) (_ : OwnI (.slice Ad (limbs D).length cd) (limbs D) w) :
    Calls Tryz.prog 198 #[.agg #[.bool neg, .slice Aq (limbs Q).length cq, .slice Ar (limbs R).length cr, .slice Ad (limbs D).length cd]] w (Postb (awayB neg Q R D 1) w) := by
  have bb0 : Below w.heap.size w (w.alloc (.cells #[.bool neg, .slice Aq (limbs Q).length cq, .slice Ar (limbs R).length cr, .slice Ad (limbs D).length cd] 198)) := below_al (Below.refl _ _) _
  have ks := (box_new w #[.bool neg, .slice Aq (limbs Q).length cq, .slice Ar (limbs R).length cr, .slice Ad (limbs D).length cd] 198)
  go_enter Tryz.func198, Tryz.ntmps198
  go_wp2
  go_ret
  exact ⟨ret_bool (rfl), bb0⟩
set_option maxHeartbeats 1000000 in
set_option maxRecDepth 100000 in
theorem farther_2 (Aq Ar Ad : Option Addr) (cq cr cd : Nat) (neg : Bool) (Q R D : Nat) (w : World) (_ : (limbs Q).length ≤ 50) (_ : (limbs R).length ≤ 18) (_ : (limbs D).length ≤ 18) (_ : OwnI (.slice Aq (limbs Q).length cq) (limbs Q) w) (_ : OwnI (.slice Ar (limbs R).length cr) (limbs R) w) (_ : OwnI (.slice Ad (limbs D).length cd) (limbs D) w) :
    Calls Tryz.prog 199 #[.agg #[.bool neg, .slice Aq (limbs Q).length cq, .slice Ar (limbs R).length cr, .slice Ad (limbs D).length cd]] w (Postb (awayB neg Q R D 2) w) := by
  have bb0 : Below w.heap.size w (w.alloc (.cells #[.bool neg, .slice Aq (limbs Q).length cq, .slice Ar (limbs R).length cr, .slice Ad (limbs D).length cd] 198)) := below_al (Below.refl _ _) _
  have ks := (box_new w #[.bool neg, .slice Aq (limbs Q).length cq, .slice Ar (limbs R).length cr, .slice Ad (limbs D).length cd] 198)
  go_enter Tryz.func199, Tryz.ntmps199
  have ks_c0 := ks.here.cell 0 _ rfl
  have ks_c1 := ks.here.cell 1 _ rfl
  have ks_c2 := ks.here.cell 2 _ rfl
  have ks_c3 := ks.here.cell 3 _ rfl
  go_wp2
  go_ret
  exact ⟨ret_bool (rfl), bb0⟩
set_option maxHeartbeats 1000000 in
set_option maxRecDepth 100000 in
theorem farther_3 (Aq Ar Ad : Option Addr) (cq cr cd : Nat) (neg : Bool) (Q R D : Nat) (w : World) (_ : (limbs Q).length ≤ 50) (_ : (limbs R).length ≤ 18) (_ : (limbs D).length ≤ 18) (_ : OwnI (.slice Aq (limbs Q).length cq) (limbs Q) w) (_ : OwnI (.slice Ar (limbs R).length cr) (limbs R) w) (_ : OwnI (.slice Ad (limbs D).length cd) (limbs D) w) :
    Calls Tryz.prog 200 #[.agg #[.bool neg, .slice Aq (limbs Q).length cq, .slice Ar (limbs R).length cr, .slice Ad (limbs D).length cd]] w (Postb (awayB neg Q R D 3) w) := by
  have bb0 : Below w.heap.size w (w.alloc (.cells #[.bool neg, .slice Aq (limbs Q).length cq, .slice Ar (limbs R).length cr, .slice Ad (limbs D).length cd] 198)) := below_al (Below.refl _ _) _
  have ks := (box_new w #[.bool neg, .slice Aq (limbs Q).length cq, .slice Ar (limbs R).length cr, .slice Ad (limbs D).length cd] 198)
  go_enter Tryz.func200, Tryz.ntmps200
  have ks_c0 := ks.here.cell 0 _ rfl
  have ks_c1 := ks.here.cell 1 _ rfl
  have ks_c2 := ks.here.cell 2 _ rfl
  have ks_c3 := ks.here.cell 3 _ rfl
  go_wp2
  go_ret
  exact ⟨ret_bool (rfl), bb0⟩
set_option maxHeartbeats 1000000 in
set_option maxRecDepth 100000 in
theorem farther_4 (Aq Ar Ad : Option Addr) (cq cr cd : Nat) (neg : Bool) (Q R D : Nat) (w : World) (hql : (limbs Q).length ≤ 50) (hrl : (limbs R).length ≤ 18) (hdl : (limbs D).length ≤ 18) (oq : OwnI (.slice Aq (limbs Q).length cq) (limbs Q) w) (or_ : OwnI (.slice Ar (limbs R).length cr) (limbs R) w) (od : OwnI (.slice Ad (limbs D).length cd) (limbs D) w) :
    Calls Tryz.prog 201 #[.agg #[.bool neg, .slice Aq (limbs Q).length cq, .slice Ar (limbs R).length cr, .slice Ad (limbs D).length cd]] w (Postb (awayB neg Q R D 4) w) := by
  obtain ⟨c, hc⟩ : ∃ c, cmpI ((R : Int) + R + 0) D = c := ⟨_, rfl⟩
  have HC := Lib.hid hc
  have HA := Lib.hid (away_cmp neg Q R D hc)
  have h3 : c = -1 ∨ c = 0 ∨ c = 1 := by rw [← hc]; exact cmp_three _ _
  have Hq := Lib.hid (show ∀ W, Below w.heap.size w W → OwnI (.slice Aq (limbs Q).length cq) (limbs Q) W from fun W hb => OwnI.belowI oq hb)
  have Hr := Lib.hid (show ∀ W, Below w.heap.size w W → OwnI (.slice Ar (limbs R).length cr) (limbs R) W from fun W hb => OwnI.belowI or_ hb)
  have Hd := Lib.hid (show ∀ W, Below w.heap.size w W → OwnI (.slice Ad (limbs D).length cd) (limbs D) W from fun W hb => OwnI.belowI od hb)
  clear hc oq or_ od
  have bb0 : Below w.heap.size w (w.alloc (.cells #[.bool neg, .slice Aq (limbs Q).length cq, .slice Ar (limbs R).length cr, .slice Ad (limbs D).length cd] 198)) := below_al (Below.refl _ _) _
  have ks := (box_new w #[.bool neg, .slice Aq (limbs Q).length cq, .slice Ar (limbs R).length cr, .slice Ad (limbs D).length cd] 198)
  go_enter Tryz.func201, Tryz.ntmps201
  have ks_c0 := ks.here.cell 0 _ rfl
  have ks_c1 := ks.here.cell 1 _ rfl
  have ks_c2 := ks.here.cell 2 _ rfl
  have ks_c3 := ks.here.cell 3 _ rfl
  go_wp2_with fail
  clear ks_c0 ks_c1 ks_c2 ks_c3
  refine ((overHalf_any Aq Ar Ad cq cr cd neg Q R D _ hql hrl hdl (Hq.out _ bb0) (Hr.out _ bb0) (Hd.out _ bb0)).mono fun _ _ h => postn_eq HC.out h).mono ?_
  rintro e w1 ⟨rfl, b1⟩
  have bb1 := Below.next bb0 b1
  replace ks := ks.below b1
  clear h3 ks
  go_wp2
  go_ret
  exact ⟨ret_bool (HA.out.1.symm), bb1⟩
set_option maxHeartbeats 1000000 in
set_option maxRecDepth 100000 in
theorem farther_5 (Aq Ar Ad : Option Addr) (cq cr cd : Nat) (neg : Bool) (Q R D : Nat) (w : World) (hql : (limbs Q).length ≤ 50) (hrl : (limbs R).length ≤ 18) (hdl : (limbs D).length ≤ 18) (oq : OwnI (.slice Aq (limbs Q).length cq) (limbs Q) w) (or_ : OwnI (.slice Ar (limbs R).length cr) (limbs R) w) (od : OwnI (.slice Ad (limbs D).length cd) (limbs D) w) :
    Calls Tryz.prog 203 #[.agg #[.bool neg, .slice Aq (limbs Q).length cq, .slice Ar (limbs R).length cr, .slice Ad (limbs D).length cd]] w (Postb (awayB neg Q R D 5) w) := by
  obtain ⟨c, hc⟩ : ∃ c, cmpI ((R : Int) + R + 0) D = c := ⟨_, rfl⟩
  have HC := Lib.hid hc
  have HA := Lib.hid (away_cmp neg Q R D hc)
  have h3 : c = -1 ∨ c = 0 ∨ c = 1 := by rw [← hc]; exact cmp_three _ _
  have Hq := Lib.hid (show ∀ W, Below w.heap.size w W → OwnI (.slice Aq (limbs Q).length cq) (limbs Q) W from fun W hb => OwnI.belowI oq hb)
  have Hr := Lib.hid (show ∀ W, Below w.heap.size w W → OwnI (.slice Ar (limbs R).length cr) (limbs R) W from fun W hb => OwnI.belowI or_ hb)
  have Hd := Lib.hid (show ∀ W, Below w.heap.size w W → OwnI (.slice Ad (limbs D).length cd) (limbs D) W from fun W hb => OwnI.belowI od hb)
  clear hc oq or_ od
  have bb0 : Below w.heap.size w (w.alloc (.cells #[.bool neg, .slice Aq (limbs Q).length cq, .slice Ar (limbs R).length cr, .slice Ad (limbs D).length cd] 198)) := below_al (Below.refl _ _) _
  have ks := (box_new w #[.bool neg, .slice Aq (limbs Q).length cq, .slice Ar (limbs R).length cr, .slice Ad (limbs D).length cd] 198)
  go_enter Tryz.func203, Tryz.ntmps203
  have ks_c0 := ks.here.cell 0 _ rfl
  have ks_c1 := ks.here.cell 1 _ rfl
  have ks_c2 := ks.here.cell 2 _ rfl
  have ks_c3 := ks.here.cell 3 _ rfl
  go_wp2_with fail
  clear ks_c0 ks_c1 ks_c2 ks_c3
  refine ((overHalf_any Aq Ar Ad cq cr cd neg Q R D _ hql hrl hdl (Hq.out _ bb0) (Hr.out _ bb0) (Hd.out _ bb0)).mono fun _ _ h => postn_eq HC.out h).mono ?_
  rintro e w1 ⟨rfl, b1⟩
  have bb1 := Below.next bb0 b1
  replace ks := ks.below b1
  clear h3 ks
  go_wp2
  go_ret
  exact ⟨ret_bool (HA.out.2.1.symm), bb1⟩
set_option maxHeartbeats 1000000 in
set_option maxRecDepth 100000 in
theorem farther_6 (Aq Ar Ad : Option Addr) (cq cr cd : Nat) (neg : Bool) (Q R D : Nat) (w : World) (hql : (limbs Q).length ≤ 50) (hrl : (limbs R).length ≤ 18) (hdl : (limbs D).length ≤ 18) (oq : OwnI (.slice Aq (limbs Q).length cq) (limbs Q) w) (or_ : OwnI (.slice Ar (limbs R).length cr) (limbs R) w) (od : OwnI (.slice Ad (limbs D).length cd) (limbs D) w) :
    Calls Tryz.prog 204 #[.agg #[.bool neg, .slice Aq (limbs Q).length cq, .slice Ar (limbs R).length cr, .slice Ad (limbs D).length cd]] w (Postb (awayB neg Q R D 6) w) := by
  obtain ⟨c, hc⟩ : ∃ c, cmpI ((R : Int) + R + 0) D = c := ⟨_, rfl⟩
  have HC := Lib.hid hc
  have HA := Lib.hid (away_cmp neg Q R D hc)
  have h3 : c = -1 ∨ c = 0 ∨ c = 1 := by rw [← hc]; exact cmp_three _ _
  have Hq := Lib.hid (show ∀ W, Below w.heap.size w W → OwnI (.slice Aq (limbs Q).length cq) (limbs Q) W from fun W hb => OwnI.belowI oq hb)
  have Hr := Lib.hid (show ∀ W, Below w.heap.size w W → OwnI (.slice Ar (limbs R).length cr) (limbs R) W from fun W hb => OwnI.belowI or_ hb)
  have Hd := Lib.hid (show ∀ W, Below w.heap.size w W → OwnI (.slice Ad (limbs D).length cd) (limbs D) W from fun W hb => OwnI.belowI od hb)
  clear hc oq or_ od
  have bb0 : Below w.heap.size w (w.alloc (.cells #[.bool neg, .slice Aq (limbs Q).length cq, .slice Ar (limbs R).length cr, .slice Ad (limbs D).length cd] 198)) := below_al (Below.refl _ _) _
  have ks := (box_new w #[.bool neg, .slice Aq (limbs Q).length cq, .slice Ar (limbs R).length cr, .slice Ad (limbs D).length cd] 198)
  go_enter Tryz.func204, Tryz.ntmps204
  have ks_c0 := ks.here.cell 0 _ rfl
  have ks_c1 := ks.here.cell 1 _ rfl
  have ks_c2 := ks.here.cell 2 _ rfl
  have ks_c3 := ks.here.cell 3 _ rfl
  go_wp2_with fail
  clear ks_c0 ks_c1 ks_c2 ks_c3
  refine ((overHalf_any Aq Ar Ad cq cr cd neg Q R D _ hql hrl hdl (Hq.out _ bb0) (Hr.out _ bb0) (Hd.out _ bb0)).mono fun _ _ h => postn_eq HC.out h).mono ?_
  rintro e w1 ⟨rfl, b1⟩
  have bb1 := Below.next bb0 b1
  replace ks := ks.below b1
  rcases h3 with rfl | rfl | rfl
  · skip
    have ks_c0 := ks.here.cell 0 _ rfl
    have ks_c1 := ks.here.cell 1 _ rfl
    have ks_c2 := ks.here.cell 2 _ rfl
    have ks_c3 := ks.here.cell 3 _ rfl
    go_wp2_with fail
    clear ks_c0 ks_c1 ks_c2 ks_c3
    refine ((overHalf_any Aq Ar Ad cq cr cd neg Q R D _ hql hrl hdl (Hq.out _ bb1) (Hr.out _ bb1) (Hd.out _ bb1)).mono fun _ _ h => postn_eq HC.out h).mono ?_
    rintro e w2 ⟨rfl, b2⟩
    have bb2 := Below.next bb1 b2
    replace ks := ks.below b2
    clear ks
    go_wp2
    go_ret
    exact ⟨ret_bool ((HA.out.2.2.trans (by simp)).symm), bb2⟩
  · have he : decide (Q % 2 = 1) = !decide (Q % 2 = 0) := by rcases Nat.mod_two_eq_zero_or_one Q with h | h <;> rw [h] <;> rfl
    have HV := Lib.hid (show awayB neg Q R D 6 = !decide (Q % 2 = 0) by rw [HA.out.2.2, he]; rfl)
    clear he HA
    have ks_c0 := ks.here.cell 0 _ rfl
    have ks_c1 := ks.here.cell 1 _ rfl
    have ks_c2 := ks.here.cell 2 _ rfl
    have ks_c3 := ks.here.cell 3 _ rfl
    go_wp2_with fail
    clear ks_c0 ks_c1 ks_c2 ks_c3
    refine ((overHalf_any Aq Ar Ad cq cr cd neg Q R D _ hql hrl hdl (Hq.out _ bb1) (Hr.out _ bb1) (Hd.out _ bb1)).mono fun _ _ h => postn_eq HC.out h).mono ?_
    rintro e w2 ⟨rfl, b2⟩
    have bb2 := Below.next bb1 b2
    replace ks := ks.below b2
    have ks_c0 := ks.here.cell 0 _ rfl
    have ks_c1 := ks.here.cell 1 _ rfl
    have ks_c2 := ks.here.cell 2 _ rfl
    have ks_c3 := ks.here.cell 3 _ rfl
    go_wp2_with fail
    clear ks_c0 ks_c1 ks_c2 ks_c3
    refine (implNatEven_any _ (limbs Q) 0 _ _ (by omega) (OwnI.row (Hq.out _ bb2))).mono ?_
    rintro e w_ ⟨rfl, rfl⟩
    rw [even_limbs (by omega)]
    generalize decide (Q % 2 = 0) = b at *
    clear ks
    cases b
    · skip
      go_wp2
      go_ret
      exact ⟨ret_bool (HV.out.symm), bb2⟩
    · skip
      go_wp2
      go_ret
      exact ⟨ret_bool (HV.out.symm), bb2⟩
  · skip
    clear ks
    go_wp2
    go_ret
    exact ⟨ret_bool ((HA.out.2.2.trans (by simp)).symm), bb1⟩
theorem farther_any (Aq Ar Ad : Option Addr) (cq cr cd : Nat) (neg : Bool) (Q R D : Nat) (w : World) (hql : (limbs Q).length ≤ 50) (hrl : (limbs R).length ≤ 18) (hdl : (limbs D).length ≤ 18) (oq : OwnI (.slice Aq (limbs Q).length cq) (limbs Q) w) (or_ : OwnI (.slice Ar (limbs R).length cr) (limbs R) w) (od : OwnI (.slice Ad (limbs D).length cd) (limbs D) w) (m : Int) (hm : modeB m = true) :
    Calls Tryz.prog (fnOf m) #[.agg #[.bool neg, .slice Aq (limbs Q).length cq, .slice Ar (limbs R).length cr, .slice Ad (limbs D).length cd]] w (Postb (awayB neg Q R D m) w) := by
  rcases modeB_cases hm with rfl | rfl | rfl | rfl | rfl | rfl | rfl
  · exact farther_0 Aq Ar Ad cq cr cd neg Q R D w hql hrl hdl oq or_ od
  · exact farther_1 Aq Ar Ad cq cr cd neg Q R D w hql hrl hdl oq or_ od
  · exact farther_2 Aq Ar Ad cq cr cd neg Q R D w hql hrl hdl oq or_ od
  · exact farther_3 Aq Ar Ad cq cr cd neg Q R D w hql hrl hdl oq or_ od
  · exact farther_4 Aq Ar Ad cq cr cd neg Q R D w hql hrl hdl oq or_ od
  · exact farther_5 Aq Ar Ad cq cr cd neg Q R D w hql hrl hdl oq or_ od
  · exact farther_6 Aq Ar Ad cq cr cd neg Q R D w hql hrl hdl oq or_ od
theorem fnOf_enters {m : Int} (hm : modeB m = true) : Enters Tryz.prog (fnOf m) := by
  rcases modeB_cases hm with rfl | rfl | rfl | rfl | rfl | rfl | rfl
  · exact (enters_of Tryz.func197 (by kernel_rfl) rfl : Enters Tryz.prog 197)
  · exact (enters_of Tryz.func198 (by kernel_rfl) rfl : Enters Tryz.prog 198)
  · exact (enters_of Tryz.func199 (by kernel_rfl) rfl : Enters Tryz.prog 199)
  · exact (enters_of Tryz.func200 (by kernel_rfl) rfl : Enters Tryz.prog 200)
  · exact (enters_of Tryz.func201 (by kernel_rfl) rfl : Enters Tryz.prog 201)
  · exact (enters_of Tryz.func203 (by kernel_rfl) rfl : Enters Tryz.prog 203)
  · exact (enters_of Tryz.func204 (by kernel_rfl) rfl : Enters Tryz.prog 204)
set_option maxHeartbeats 4000000 in
set_option maxRecDepth 100000 in
theorem quotient_any (nm : ByteArray) (vx vd : Value) (x : SI) (D : Nat) (m : Int) (w : World) (hm : modeB m = true) (ok : okS x = true) (h0D : 0 < D) (hdl : (limbs D).length ≤ 18) (hx : OwnS vx x w) (hd : OwnI vd (limbs D) w) (hsen : Sen w) :
    Calls Tryz.prog 135 #[.agg #[.string nm, .func (.func (fnOf m)) #[] #[]], vx, vd] w (NewV (fun u => OwnS u (mkS x.1 (quoL x.1 (nval x.2).toNat D m))) w) := by
  have HS := Lib.hid hsen
  clear hsen
  have Hx := Lib.hid hx
  obtain ⟨Ax, cx, rfl⟩ := ownS_form hx
  have OSx := Lib.hid (show ∀ W, Below w.heap.size w W → OwnS (.agg #[.bool x.1, .slice Ax x.2.length cx]) x W from fun W hb => OwnS.below Hx.out hb)
  have OIx := Lib.hid (show ∀ W, Below w.heap.size w W → OwnI (.slice Ax x.2.length cx) x.2 W from fun W hb => ownS_open (OSx.out W hb))
  clear hx
  obtain ⟨Ad, cd, rfl⟩ := own_len hd
  have ODd := Lib.hid (show ∀ W, Below w.heap.size w W → OwnI (.slice Ad (limbs D).length cd) (limbs D) W from fun W hb => OwnI.belowI hd hb)
  clear hd
  have HM := Lib.hid hm
  have HO := Lib.hid ok
  have HF := Lib.hid (fun (Aq Ar Ad : Option Addr) (cq cr cd : Nat) (neg : Bool) (Q R D : Nat) (w : World) hql hrl hdl oq or_ od => farther_any Aq Ar Ad cq cr cd neg Q R D w hql hrl hdl oq or_ od m hm)
  have he := fnOf_enters hm
  unfold Enters at he
  clear hm
  generalize fnOf m = fk at HF he ⊢
  have bb0 : Below w.heap.size w (((w.alloc (.cells #[.string nm, .func (.func fk) #[] #[]] 165)).alloc (.cells #[.bool x.1, .slice Ax x.2.length cx] 25)).alloc (.cells #[.bool false, .slice none 0 0] 25)) := below_al (below_al (below_al (Below.refl _ _) _) _) _
  have km := (box_new w #[.string nm, .func (.func fk) #[] #[]] 165).below (below_al (below_al (Below.refl _ _) (.cells #[.bool x.1, .slice Ax x.2.length cx] 25)) (.cells #[.bool false, .slice none 0 0] 25))
  have kx := (box_new (w.alloc (.cells #[.string nm, .func (.func fk) #[] #[]] 165)) #[.bool x.1, .slice Ax x.2.length cx] 25).below (below_al (Below.refl _ _) (.cells #[.bool false, .slice none 0 0] 25))
  rw [show (w.alloc (.cells #[.string nm, .func (.func fk) #[] #[]] 165)).heap.size = w.heap.size + 1 by simp] at kx
  have ko := (box_new ((w.alloc (.cells #[.string nm, .func (.func fk) #[] #[]] 165)).alloc (.cells #[.bool x.1, .slice Ax x.2.length cx] 25)) #[.bool false, .slice none 0 0] 25)
  rw [show ((w.alloc (.cells #[.string nm, .func (.func fk) #[] #[]] 165)).alloc (.cells #[.bool x.1, .slice Ax x.2.length cx] 25)).heap.size = w.heap.size + 1 + 1 by simp] at ko
  have HKO := Lib.hid (ko.lt (w.heap.size + 1 + 1) (by simp))
  have hp := okS_parts ok
  have hn := nval_ok hp.1
  have hx50 := (natOk_parts hp.1).2.1
  obtain ⟨A, hA⟩ : ∃ A, (nval x.2).toNat = A := ⟨_, rfl⟩
  have hxA : x.2 = limbs A := by rw [← hA]; exact natOk_limbs hp.1
  have hnA : nval x.2 = (A : Int) := by omega
  rw [hA]
  obtain ⟨Q, hQ⟩ : ∃ Q, A / D = Q := ⟨_, rfl⟩
  obtain ⟨R, hR⟩ : ∃ R, A % D = R := ⟨_, rfl⟩
  have EQ := Lib.hid hQ
  have ER := Lib.hid hR
  have hAl := nval_lt (limbs A) (limbs_digN A)
  rw [limbs_val, ← hxA] at hAl
  have hql : (limbs Q).length ≤ 50 := Nat.le_trans (limbs_length_le Q x.2.length (by have h1 := Nat.div_le_self A D; rw [hQ] at h1; omega)) hx50
  have hDl := nval_lt (limbs D) (limbs_digN D)
  rw [limbs_val] at hDl
  have hrl : (limbs R).length ≤ 18 := Nat.le_trans (limbs_length_le R (limbs D).length (by have h1 := Nat.mod_lt A h0D; rw [hR] at h1; omega)) hdl
  have hD0 : 0 < (limbs D).length := by have := (limbs_zero_iff D).1; omega
  have hdv : divN x.2 (limbs D) = (limbs Q, limbs R) := by unfold divN; rw [if_pos ⟨hp.1, limbs_okL D (by omega), hD0⟩, hnA, limbs_val, div_toNat, ← Int.natCast_emod, Int.toNat_natCast, hQ, hR]
  have E1 := Lib.hid (show (divN x.2 (limbs D)).1 = limbs Q by rw [hdv])
  have E2 := Lib.hid (show (divN x.2 (limbs D)).2 = limbs R by rw [hdv])
  clear hA hxA hnA hQ hR hAl hDl hdv hp hn ok hD0 h0D
  go_enter Tryz.func135, Tryz.ntmps135
  have kx_c0 := kx.here.cell 0 _ rfl
  have kx_c1 := kx.here.cell 1 _ rfl
  go_wp2_with fail
  clear kx_c0 kx_c1
  refine ((implNatDiv_any _ _ x.2 (limbs D) 0 _ 0 _ _ (by omega) (by omega) (Nat.le_refl _) (Nat.le_refl _) (OIx.out _ bb0).row (ODd.out _ bb0).row (HS.out.below bb0)).mono fun _ _ h => twoRows_eq h E1.out E2.out).mono ?_
  rintro e w1 ⟨vq, vr_, rfl, oq0, or0, hqr, b1⟩
  obtain ⟨Aq, cq, rfl⟩ := own_len oq0
  obtain ⟨As, cs, rfl⟩ := own_len or0
  have oq := own_at' oq0
  have os := own_at' or0
  have lq := own_within oq0
  clear oq0 or0 hqr
  have bb1 := Below.next bb0 b1
  replace km := km.below b1
  replace kx := kx.below b1
  replace ko := ko.below b1
  by_cases h0 : R = 0
  · have HV := Lib.hid (show quoL x.1 A D m = limbs Q from quoL_plain EQ.out ER.out (.inl h0))
    subst h0
    rw [show (limbs 0).length = 0 by rw [limbs_zero]; rfl] at *
    clear os
    have hX50 : (limbs Q).length ≤ 50 := hql
    obtain ⟨sg, hsg⟩ : ∃ sg, (x.1 && decide (0 < (limbs Q).length)) = sg := ⟨_, rfl⟩
    have ESG := Lib.hid hsg
    have EM := Lib.hid (show mkS x.1 (quoL x.1 A D m) = (sg, limbs Q) by rw [HV.out]; exact mkS_quo hX50 hsg)
    clear hsg
    have kx_c0 := kx.here.cell 0 _ rfl
    have kx_c1 := kx.here.cell 1 _ rfl
    have kn := box_new (w1) #[.slice Aq (limbs Q).length cq, .bool x.1] 121
    have aln := below_al (Below.refl (w1).heap.size (w1)) (.cells #[.slice Aq (limbs Q).length cq, .bool x.1] 121)
    have bbn := Below.next bb1 aln
    replace km := km.below aln
    replace kx := kx.below aln
    replace ko := ko.below aln
    replace oq := oq.below aln
    go_wp2_with fail
    clear kx_c0 kx_c1
    refine (signed_same _ _ Aq cq (limbs Q) sg _ hX50 ESG.out kn.here).mono ?_
    rintro e w2 ⟨rfl, b2⟩
    have bb2 := Below.next bbn b2
    replace km := km.below b2
    replace kx := kx.below b2
    replace ko := ko.below b2
    replace oq := oq.below b2
    replace kn := kn.below b2
    have of := oq.imp (fun _ h => (OwnS.mk h : OwnS (.agg #[.bool (sg, (limbs Q)).1, .slice Aq (limbs Q).length cq]) (sg, (limbs Q)) _))
    have lf := within_up lq (Nat.le_refl _) (show _ ≤ w2.heap.size by have := aln.size; have := b2.size; omega)
    have HW := Lib.hid (newS_at (r := w.heap.size + 1 + 1) of lf (by have := HKO.out; have := b1.size;  omega) (by omega) bb2)
    have cz0 := ko.here.cell 0 _ rfl
    have fz0 := Lib.frozen_of_heap ko.here 0
    have cz1 := ko.here.cell 1 _ rfl
    have fz1 := Lib.frozen_of_heap ko.here 1
    clear of ko kn km
    go_wp2
    refine bodyPost_ret (v := .agg #[.bool sg, .slice Aq _ cq]) (by simp [results, Tryz.results135, go_sem, cz0, cz1]; try rfl) rfl ?_
    rw [EM.out]
    exact HW.out
  · have hlen : ((limbs R).length : Int) > 0 := by have := mt (limbs_zero_iff R).1 h0; omega
    have H0 := Lib.hid h0
    clear h0
    have kx_c0 := kx.here.cell 0 _ rfl
    have kx_c1 := kx.here.cell 1 _ rfl
    have km_c0 := km.here.cell 0 _ rfl
    have km_c1 := km.here.cell 1 _ rfl
    go_wp2_with fail
    clear kx_c0 kx_c1 km_c0 km_c1
    refine (show Calls _ fk #[.agg #[.bool x.1, .slice Aq (limbs Q).length cq, .slice As (limbs R).length cs, .slice Ad (limbs D).length cd]] _ (Postb (awayB x.1 Q R D m) _) from HF.out Aq As Ad cq cs cd x.1 Q R D _ hql hrl hdl oq.here os.here (ODd.out _ bb1)).mono ?_
    rintro e w2 ⟨rfl, b2⟩
    have bb2 := Below.next bb1 b2
    replace km := km.below b2
    replace kx := kx.below b2
    replace ko := ko.below b2
    replace oq := oq.below b2
    replace os := os.below b2
    by_cases ha : awayB x.1 Q R D m = true
    · have HV := Lib.hid (show quoL x.1 A D m = addN (limbs Q) (limbs 1) from quoL_more EQ.out ER.out H0.out ha)
      rw [ha]
      clear ha
      have kx_c0 := kx.here.cell 0 _ rfl
      have kx_c1 := kx.here.cell 1 _ rfl
      go_wp2_with fail
      clear kx_c0 kx_c1
      refine (implNatOf_any 1 _ (by decide)).mono ?_
      rintro e w3 ⟨vo, rfl, oo, b3⟩
      rw [show (1 : Int).toNat = 1 from rfl] at oo
      have bb3 := Below.next bb2 b3
      replace km := km.below b3
      replace kx := kx.below b3
      replace ko := ko.below b3
      replace oq := oq.below b3
      replace os := os.below b3
      go_wp2_with fail
      refine (implNatAdd_any _ _ (limbs Q) (limbs 1) 0 _ _ _ _ (by omega) (by rw [one_limbs]; decide) (Nat.le_refl _) (Nat.le_refl _) oq.here.row (Row.of_own oo)).mono ?_
      rintro e w4 ⟨vz, rfl, oz0, b4⟩
      obtain ⟨Az, cz, rfl⟩ := own_len oz0
      have oz := own_at' oz0
      have lz := own_within oz0
      clear oz0
      have bb4 := Below.next bb3 b4
      replace km := km.below b4
      replace kx := kx.below b4
      replace ko := ko.below b4
      replace oq := oq.below b4
      replace os := os.below b4
      clear oq os
      have hX50 : (addN (limbs Q) (limbs 1)).length ≤ 50 := addN_len50 _ _
      obtain ⟨sg, hsg⟩ : ∃ sg, (x.1 && decide (0 < (addN (limbs Q) (limbs 1)).length)) = sg := ⟨_, rfl⟩
      have ESG := Lib.hid hsg
      have EM := Lib.hid (show mkS x.1 (quoL x.1 A D m) = (sg, addN (limbs Q) (limbs 1)) by rw [HV.out]; exact mkS_quo hX50 hsg)
      clear hsg
      have kx_c0 := kx.here.cell 0 _ rfl
      have kx_c1 := kx.here.cell 1 _ rfl
      have kn := box_new (w4) #[.slice Az (addN (limbs Q) (limbs 1)).length cz, .bool x.1] 121
      have aln := below_al (Below.refl (w4).heap.size (w4)) (.cells #[.slice Az (addN (limbs Q) (limbs 1)).length cz, .bool x.1] 121)
      have bbn := Below.next bb4 aln
      replace km := km.below aln
      replace kx := kx.below aln
      replace ko := ko.below aln
      replace oz := oz.below aln
      go_wp2_with fail
      clear kx_c0 kx_c1
      refine (signed_same _ _ Az cz (addN (limbs Q) (limbs 1)) sg _ hX50 ESG.out kn.here).mono ?_
      rintro e w5 ⟨rfl, b5⟩
      have bb5 := Below.next bbn b5
      replace km := km.below b5
      replace kx := kx.below b5
      replace ko := ko.below b5
      replace oz := oz.below b5
      replace kn := kn.below b5
      have of := oz.imp (fun _ h => (OwnS.mk h : OwnS (.agg #[.bool (sg, (addN (limbs Q) (limbs 1))).1, .slice Az (addN (limbs Q) (limbs 1)).length cz]) (sg, (addN (limbs Q) (limbs 1))) _))
      have lf := within_up lz (Nat.le_refl _) (show _ ≤ w5.heap.size by have := aln.size; have := b2.size; have := b3.size; have := b4.size; have := b5.size; omega)
      have HW := Lib.hid (newS_at (r := w.heap.size + 1 + 1) of lf (by have := HKO.out; have := b1.size; have := b2.size; have := b3.size; have := b4.size; omega) (by omega) bb5)
      have cz0 := ko.here.cell 0 _ rfl
      have fz0 := Lib.frozen_of_heap ko.here 0
      have cz1 := ko.here.cell 1 _ rfl
      have fz1 := Lib.frozen_of_heap ko.here 1
      clear of ko kn km
      go_wp2
      refine bodyPost_ret (v := .agg #[.bool sg, .slice Az _ cz]) (by simp [results, Tryz.results135, go_sem, cz0, cz1]; try rfl) rfl ?_
      rw [EM.out]
      exact HW.out
    · have ha' : awayB x.1 Q R D m = false := by simpa using ha
      have HV := Lib.hid (show quoL x.1 A D m = limbs Q from quoL_plain EQ.out ER.out (.inr ha'))
      rw [ha']
      clear ha ha' os
      have hX50 : (limbs Q).length ≤ 50 := hql
      obtain ⟨sg, hsg⟩ : ∃ sg, (x.1 && decide (0 < (limbs Q).length)) = sg := ⟨_, rfl⟩
      have ESG := Lib.hid hsg
      have EM := Lib.hid (show mkS x.1 (quoL x.1 A D m) = (sg, limbs Q) by rw [HV.out]; exact mkS_quo hX50 hsg)
      clear hsg
      have kx_c0 := kx.here.cell 0 _ rfl
      have kx_c1 := kx.here.cell 1 _ rfl
      have kn := box_new (w2) #[.slice Aq (limbs Q).length cq, .bool x.1] 121
      have aln := below_al (Below.refl (w2).heap.size (w2)) (.cells #[.slice Aq (limbs Q).length cq, .bool x.1] 121)
      have bbn := Below.next bb2 aln
      replace km := km.below aln
      replace kx := kx.below aln
      replace ko := ko.below aln
      replace oq := oq.below aln
      go_wp2_with fail
      clear kx_c0 kx_c1
      refine (signed_same _ _ Aq cq (limbs Q) sg _ hX50 ESG.out kn.here).mono ?_
      rintro e w3 ⟨rfl, b3⟩
      have bb3 := Below.next bbn b3
      replace km := km.below b3
      replace kx := kx.below b3
      replace ko := ko.below b3
      replace oq := oq.below b3
      replace kn := kn.below b3
      have of := oq.imp (fun _ h => (OwnS.mk h : OwnS (.agg #[.bool (sg, (limbs Q)).1, .slice Aq (limbs Q).length cq]) (sg, (limbs Q)) _))
      have lf := within_up lq (Nat.le_refl _) (show _ ≤ w3.heap.size by have := aln.size; have := b2.size; have := b3.size; omega)
      have HW := Lib.hid (newS_at (r := w.heap.size + 1 + 1) of lf (by have := HKO.out; have := b1.size; have := b2.size; omega) (by omega) bb3)
      have cz0 := ko.here.cell 0 _ rfl
      have fz0 := Lib.frozen_of_heap ko.here 0
      have cz1 := ko.here.cell 1 _ rfl
      have fz1 := Lib.frozen_of_heap ko.here 1
      clear of ko kn km
      go_wp2
      refine bodyPost_ret (v := .agg #[.bool sg, .slice Aq _ cq]) (by simp [results, Tryz.results135, go_sem, cz0, cz1]; try rfl) rfl ?_
      rw [EM.out]
      exact HW.out
set_option maxHeartbeats 4000000 in
set_option maxRecDepth 100000 in
theorem implRatRound_any (vr : Value) (r : QI) (m : Int) (w : World) (hz : szQ r ≤ 1048576) (hr : OwnQ vr r w) (hsen : Sen w) :
    Calls Tryz.prog 94 #[vr, .int .i64 m] w (PostSb (roundR r m).1 (roundR r m).2 w) := by
  have HS := Lib.hid hsen
  clear hsen
  have Hr := Lib.hid hr
  obtain ⟨Ar, cr, Br, dr, rfl⟩ := ownQ_form hr
  have OQr := Lib.hid (show ∀ W, Below w.heap.size w W → OwnQ (.agg #[.bool r.1.1, .slice Ar r.1.2.length cr, .slice Br r.2.length dr]) r W from fun W hb => OwnQ.below Hr.out hb)
  have OUr := Lib.hid (show ∀ W, Below w.heap.size w W → OwnI (.slice Ar r.1.2.length cr) r.1.2 W from fun W hb => (ownQ_open (OQr.out W hb)).2.1)
  have ODr := Lib.hid (show ∀ W, Below w.heap.size w W → OwnI (.slice Br r.2.length dr) r.2 W from fun W hb => (ownQ_open (OQr.out W hb)).2.2.1)
  have OSr := Lib.hid (show ∀ W, Below w.heap.size w W → OwnS (.agg #[.bool r.1.1, .slice Ar r.1.2.length cr]) r.1 W from fun W hb => OwnS.mk (OUr.out W hb))
  clear hr
  have bb0 : Below w.heap.size w ((w.alloc (.cells #[.bool r.1.1, .slice Ar r.1.2.length cr, .slice Br r.2.length dr] 51)).alloc (.cells #[.bool false, .slice none 0 0] 25)) := below_al (below_al (Below.refl _ _) _) _
  have kr := (box_new w #[.bool r.1.1, .slice Ar r.1.2.length cr, .slice Br r.2.length dr] 51).below (below_al (Below.refl _ _) (.cells #[.bool false, .slice none 0 0] 25))
  have ko := (box_new (w.alloc (.cells #[.bool r.1.1, .slice Ar r.1.2.length cr, .slice Br r.2.length dr] 51)) #[.bool false, .slice none 0 0] 25)
  rw [show (w.alloc (.cells #[.bool r.1.1, .slice Ar r.1.2.length cr, .slice Br r.2.length dr] 51)).heap.size = w.heap.size + 1 by simp] at ko
  have HKO := Lib.hid (ko.lt (w.heap.size + 1) (by simp))
  by_cases hm : modeB m = true
  · have HM := Lib.hid hm
    have HRO := Lib.hid (roundingOf_mode m hm)
    have HQU := Lib.hid (fun (nm : ByteArray) (vx vd : Value) (x : SI) (D : Nat) (w : World) => quotient_any nm vx vd x D m w hm)
    clear hm
    generalize nameB m = nm at HRO
    generalize fnOf m = fk at HRO HQU
    go_enter Tryz.func94, Tryz.ntmps94
    go_wp2_with fail
    refine (HRO.out _).mono ?_
    rintro e w1 ⟨rfl, b1⟩
    have bb1 := Below.next bb0 b1
    replace kr := kr.below b1
    replace ko := ko.below b1
    have km := box_new (w1) #[.string nm, .func (.func fk) #[] #[]] 165
    have alm := below_al (Below.refl (w1).heap.size (w1)) (.cells #[.string nm, .func (.func fk) #[] #[]] 165)
    have bbm := Below.next bb1 alm
    replace kr := kr.below alm
    replace ko := ko.below alm
    have kr_c0 := kr.here.cell 0 _ rfl
    have kr_c1 := kr.here.cell 1 _ rfl
    have kr_c2 := kr.here.cell 2 _ rfl
    go_wp2_with fail
    clear kr_c0 kr_c1 kr_c2
    refine (implRatOk_any _ r _ hz (OQr.out _ bbm) (HS.out.below bbm)).mono ?_
    rintro e w2 ⟨rfl, b2⟩
    have bb2 := Below.next bbm b2
    replace kr := kr.below b2
    replace ko := ko.below b2
    replace km := km.below b2
    by_cases ok : okQ r = true
    · rw [ok]
      have HO := Lib.hid ok
      have HP := Lib.hid (parts_of ok)
      have hlt := roundN_lt HP.out m
      have hq0 := quot_len ok
      have HV := Lib.hid (show roundR r m = (mkS r.1.1 (quoL r.1.1 (nval r.1.2).toNat (denQ r) m), true) by
        unfold roundR
        rw [if_pos ⟨ok, HM.out⟩]
        unfold roundS
        rw [quoL_is (by
          have h1 := Nat.div_le_self (topN r) (denQ r)
          have h2 := HP.out.nlt
          have h3 : bp 18 < bp 19 := bp_step 18
          have h4 : bp 19 ≤ bp 50 := bp_mono (by omega)
          show ((topN r / denQ r : Nat) : Int) + 1 < bp 50
          omega)]
        rfl)
      obtain ⟨X, hX⟩ : ∃ X, mkS r.1.1 (quoL r.1.1 (nval r.1.2).toNat (denQ r) m) = X := ⟨_, rfl⟩
      have EX := Lib.hid hX
      rw [hX] at HV
      clear ok hX hlt hq0
      have kr_c0 := kr.here.cell 0 _ rfl
      have kr_c1 := kr.here.cell 1 _ rfl
      have kr_c2 := kr.here.cell 2 _ rfl
      have km_c0 := km.here.cell 0 _ rfl
      have km_c1 := km.here.cell 1 _ rfl
      go_wp2_with fail
      clear kr_c0 kr_c1 kr_c2 km_c0 km_c1
      refine ((HQU.out nm _ _ r.1 (denQ r) _ HP.out.okn (denQ_pos HO.out) (by have e := HP.out.d; rw [← e]; exact HP.out.d50) (OSr.out _ bb2) (ownI_eq (ODr.out _ bb2) HP.out.d) (HS.out.below bb2)).mono fun _ _ h => roundVS_eq EX.out h).mono ?_
      rintro e w3 ⟨uf, Sf, rfl, of, lf, b3⟩
      obtain ⟨Af, cf, rfl⟩ := ownS_form of.here
      have bb3 := Below.next bb2 b3
      replace kr := kr.below b3
      replace ko := ko.below b3
      replace km := km.below b3
      clear kr km
      have HW := Lib.hid (newSb_at (b := true) (r := w.heap.size + 1) of lf (by have := HKO.out; have := b1.size; have := alm.size; have := b2.size; omega) (by omega) bb3)
      have cz0 := ko.here.cell 0 _ rfl
      have fz0 := Lib.frozen_of_heap ko.here 0
      have cz1 := ko.here.cell 1 _ rfl
      have fz1 := Lib.frozen_of_heap ko.here 1
      clear of ko
      go_wp2
      refine bodyPost_ret (v := .tuple #[.agg #[.bool _, .slice Af _ cf], .bool _]) (by simp [results, Tryz.results94, go_sem, cz0, cz1]; exact ⟨⟨rfl, rfl⟩, rfl⟩) rfl ?_
      rw [HV.out]
      exact HW.out
    · have ok' : okQ r = false := by simpa using ok
      have HV := Lib.hid (show roundR r m = (zeroS, false) by unfold roundR; rw [if_neg (fun h => ok h.1)])
      rw [ok']
      clear ok ok'
      have cz0 := ko.here.cell 0 _ rfl
      have fz0 := Lib.frozen_of_heap ko.here 0
      have cz1 := ko.here.cell 1 _ rfl
      have fz1 := Lib.frozen_of_heap ko.here 1
      go_wp2
      refine bodyPost_ret (v := .tuple #[.agg #[.bool false, .slice none 0 0], .bool false]) (by simp [results, Tryz.results94, go_sem, cz0, cz1]) rfl ?_
      rw [HV.out]
      first | exact newSb_zero _ bb2 | exact newSb_zero _ (below_set2 bb2 (by omega))
  · have HRO := Lib.hid (roundingOf_none m hm)
    have HV := Lib.hid (show roundR r m = (zeroS, false) by unfold roundR; rw [if_neg (fun h => hm h.2)])
    clear hm
    go_enter Tryz.func94, Tryz.ntmps94
    go_wp2_with fail
    refine (HRO.out _).mono ?_
    rintro e w1 ⟨rfl, b1⟩
    have bb1 := Below.next bb0 b1
    replace kr := kr.below b1
    replace ko := ko.below b1
    have km := box_new (w1) #[.string ⟨#[]⟩, .nilFunc] 165
    have alm := below_al (Below.refl (w1).heap.size (w1)) (.cells #[.string ⟨#[]⟩, .nilFunc] 165)
    have bbm := Below.next bb1 alm
    replace kr := kr.below alm
    replace ko := ko.below alm
    have cz0 := ko.here.cell 0 _ rfl
    have fz0 := Lib.frozen_of_heap ko.here 0
    have cz1 := ko.here.cell 1 _ rfl
    have fz1 := Lib.frozen_of_heap ko.here 1
    go_wp2
    refine bodyPost_ret (v := .tuple #[.agg #[.bool false, .slice none 0 0], .bool false]) (by simp [results, Tryz.results94, go_sem, cz0, cz1]) rfl ?_
    rw [HV.out]
    first | exact newSb_zero _ bbm | exact newSb_zero _ (below_set2 bbm (by omega))
end Go.Proofs.YtcenmdiblbooeaaGreatDoor

namespace Go.Proofs.YtcenmdiblbooeaaGreatDoor
open Go.RowKit

end Go.Proofs.YtcenmdiblbooeaaGreatDoor

namespace Go.Proofs.YtcenmdiblbooeaaGreatDoor
open Go.RowKit

set_option maxHeartbeats 4000000 in
set_option maxRecDepth 100000 in
theorem implRatRest_any (vr : Value) (r : QI) (m : Int) (w : World) (hz : szQ r ≤ 1048576) (hr : OwnQ vr r w) (hsen : Sen w) :
    Calls Tryz.prog 59 #[vr, .int .i64 m] w (PostSQb (restS r m) (restQ r m) (restB r m) w) := by
  have HS := Lib.hid hsen
  clear hsen
  have Hr := Lib.hid hr
  obtain ⟨Ar, cr, Br, dr, rfl⟩ := ownQ_form hr
  have OQr := Lib.hid (show ∀ W, Below w.heap.size w W → OwnQ (.agg #[.bool r.1.1, .slice Ar r.1.2.length cr, .slice Br r.2.length dr]) r W from fun W hb => OwnQ.below Hr.out hb)
  have OUr := Lib.hid (show ∀ W, Below w.heap.size w W → OwnI (.slice Ar r.1.2.length cr) r.1.2 W from fun W hb => (ownQ_open (OQr.out W hb)).2.1)
  have ODr := Lib.hid (show ∀ W, Below w.heap.size w W → OwnI (.slice Br r.2.length dr) r.2 W from fun W hb => (ownQ_open (OQr.out W hb)).2.2.1)
  have OSr := Lib.hid (show ∀ W, Below w.heap.size w W → OwnS (.agg #[.bool r.1.1, .slice Ar r.1.2.length cr]) r.1 W from fun W hb => OwnS.mk (OUr.out W hb))
  clear hr
  have bb0 : Below w.heap.size w (((w.alloc (.cells #[.bool r.1.1, .slice Ar r.1.2.length cr, .slice Br r.2.length dr] 51)).alloc (.cells #[.bool false, .slice none 0 0] 25)).alloc (.cells #[.bool false, .slice none 0 0, .slice none 0 0] 51)) := below_al (below_al (below_al (Below.refl _ _) _) _) _
  have kr := (box_new w #[.bool r.1.1, .slice Ar r.1.2.length cr, .slice Br r.2.length dr] 51).below (below_al (below_al (Below.refl _ _) (.cells #[.bool false, .slice none 0 0] 25)) (.cells #[.bool false, .slice none 0 0, .slice none 0 0] 51))
  have ko := (box_new (w.alloc (.cells #[.bool r.1.1, .slice Ar r.1.2.length cr, .slice Br r.2.length dr] 51)) #[.bool false, .slice none 0 0] 25).below (below_al (Below.refl _ _) (.cells #[.bool false, .slice none 0 0, .slice none 0 0] 51))
  rw [show (w.alloc (.cells #[.bool r.1.1, .slice Ar r.1.2.length cr, .slice Br r.2.length dr] 51)).heap.size = w.heap.size + 1 by simp] at ko
  have kp := (box_new ((w.alloc (.cells #[.bool r.1.1, .slice Ar r.1.2.length cr, .slice Br r.2.length dr] 51)).alloc (.cells #[.bool false, .slice none 0 0] 25)) #[.bool false, .slice none 0 0, .slice none 0 0] 51)
  rw [show ((w.alloc (.cells #[.bool r.1.1, .slice Ar r.1.2.length cr, .slice Br r.2.length dr] 51)).alloc (.cells #[.bool false, .slice none 0 0] 25)).heap.size = w.heap.size + 1 + 1 by simp] at kp
  have HKO := Lib.hid (ko.lt (w.heap.size + 1) (by simp))
  have HKP := Lib.hid (kp.lt (w.heap.size + 1 + 1) (by simp))
  obtain ⟨X, hX⟩ : ∃ X, (roundR r m).1 = X := ⟨_, rfl⟩
  obtain ⟨Y, hY⟩ : ∃ Y, (makeQ X (ofZ 1)).1 = Y := ⟨_, rfl⟩
  obtain ⟨Z, hZ⟩ : ∃ Z, (subQ r Y).1 = Z := ⟨_, rfl⟩
  have zX : szS X ≤ 1048576 := by rw [← hX]; exact roundR_sz r m
  have zY : szQ Y ≤ 1048576 := by rw [← hY]; exact makeQ_szQ _ _
  by_cases hb : okQ r = true ∧ modeB m = true
  · obtain ⟨r1, r2, r3, r4⟩ := rest_all hb.1 hb.2
    have ER := Lib.hid (show roundR r m = (X, true) by rw [r1, ← hX, r1])
    have rp := rest_parts hb.1 m
    have e0 : roundS r m = X := by rw [← hX, r1]
    rw [e0] at rp r3 r4
    rw [hY] at rp r4
    rw [hZ] at r4
    have EM := Lib.hid (show makeQ X (ofZ 1) = (Y, true) by rw [← hY, ← rp.1])
    have ES := Lib.hid (show subQ r Y = (Z, true) by rw [← hZ, ← rp.2])
    have HV := Lib.hid (show restS r m = X ∧ restQ r m = Z ∧ restB r m = true from ⟨r3, r4, r2⟩)
    clear rp e0
    clear hX hY hZ r1 r2 r3 r4 hb
    go_enter Tryz.func59, Tryz.ntmps59
    have kr_c0 := kr.here.cell 0 _ rfl
    have kr_c1 := kr.here.cell 1 _ rfl
    have kr_c2 := kr.here.cell 2 _ rfl
    go_wp2_with fail
    clear kr_c0 kr_c1 kr_c2
    refine ((implRatRound_any _ r m _ hz (OQr.out _ bb0) (HS.out.below bb0)).mono fun _ _ h => postSb_is ER.out h).mono ?_
    rintro e w1 ⟨ux, Sx, rfl, ox, lx, b1⟩
    obtain ⟨Ax, cx, rfl⟩ := ownS_form ox.here
    have bb1 := Below.next bb0 b1
    replace kr := kr.below b1
    replace ko := ko.below b1
    replace kp := kp.below b1
    have kx := box_new (w1) #[.bool X.1, .slice Ax X.2.length cx] 25
    have alx := below_al (Below.refl (w1).heap.size (w1)) (.cells #[.bool X.1, .slice Ax X.2.length cx] 25)
    have bbx := Below.next bb1 alx
    replace kr := kr.below alx
    replace ko := ko.below alx
    replace kp := kp.below alx
    replace ox := ox.below alx
    have kx_c0 := kx.here.cell 0 _ rfl
    have kx_c1 := kx.here.cell 1 _ rfl
    go_wp2_with fail
    clear kx_c0 kx_c1
    refine ((implRatInt_any _ X _ zX ox.here (HS.out.below bbx)).mono fun _ _ h => postQb_is EM.out h).mono ?_
    rintro e w2 ⟨uy, Sy, rfl, oy, ly, b2⟩
    obtain ⟨Ay, cy, By, dy, rfl⟩ := ownQ_form oy.here
    have bb2 := Below.next bbx b2
    replace kr := kr.below b2
    replace ko := ko.below b2
    replace kp := kp.below b2
    replace ox := ox.below b2
    replace kx := kx.below b2
    have ky := box_new (w2) #[.bool Y.1.1, .slice Ay Y.1.2.length cy, .slice By Y.2.length dy] 51
    have aly := below_al (Below.refl (w2).heap.size (w2)) (.cells #[.bool Y.1.1, .slice Ay Y.1.2.length cy, .slice By Y.2.length dy] 51)
    have bby := Below.next bb2 aly
    replace kr := kr.below aly
    replace ko := ko.below aly
    replace kp := kp.below aly
    replace ox := ox.below aly
    replace kx := kx.below aly
    replace oy := oy.below aly
    have kr_c0 := kr.here.cell 0 _ rfl
    have kr_c1 := kr.here.cell 1 _ rfl
    have kr_c2 := kr.here.cell 2 _ rfl
    have ky_c0 := ky.here.cell 0 _ rfl
    have ky_c1 := ky.here.cell 1 _ rfl
    have ky_c2 := ky.here.cell 2 _ rfl
    go_wp2_with fail
    clear kr_c0 kr_c1 kr_c2 ky_c0 ky_c1 ky_c2
    refine ((implRatSub_any _ _ r Y _ hz zY (OQr.out _ bby) oy.here (HS.out.below bby)).mono fun _ _ h => postQb_is ES.out h).mono ?_
    rintro e w3 ⟨uz, Sz, rfl, oz, lz, b3⟩
    obtain ⟨Az, cz, Bz, dz, rfl⟩ := ownQ_form oz.here
    have bb3 := Below.next bby b3
    replace kr := kr.below b3
    replace ko := ko.below b3
    replace kp := kp.below b3
    replace ox := ox.below b3
    replace kx := kx.below b3
    replace oy := oy.below b3
    replace ky := ky.below b3
    have kz := box_new (w3) #[.bool Z.1.1, .slice Az Z.1.2.length cz, .slice Bz Z.2.length dz] 51
    have alz := below_al (Below.refl (w3).heap.size (w3)) (.cells #[.bool Z.1.1, .slice Az Z.1.2.length cz, .slice Bz Z.2.length dz] 51)
    have bbz := Below.next bb3 alz
    replace kr := kr.below alz
    replace ko := ko.below alz
    replace kp := kp.below alz
    replace ox := ox.below alz
    replace kx := kx.below alz
    replace oy := oy.below alz
    replace ky := ky.below alz
    replace oz := oz.below alz
    have z1 := b1.size
    have z2 := b2.size
    have z3 := b3.size
    have zx := alx.size
    have zy := aly.size
    have zz := alz.size
    have HKX := Lib.hid (kx.lt _ (List.mem_singleton.2 rfl))
    have HW := Lib.hid (newSQb_at (b := true) (r := w.heap.size + 1) (p := w.heap.size + 1 + 1) ox oz (within_up lx (Nat.le_refl _) (Nat.le_trans zx (Nat.le_trans z2 (Nat.le_trans zy (Nat.le_trans z3 zz))))) (within_up lz (Nat.le_refl _) zz) (Within.apart lx lz (.inl (Nat.le_trans zx (Nat.le_trans z2 zy)))) HKP.out (Nat.lt_of_lt_of_le HKP.out (Nat.le_trans z1 (Nat.le_trans zx (Nat.le_trans z2 zy)))) (by omega) (by omega) (by omega) bbz)
    have hs1 := HKP.out
    have hs2 := Nat.lt_of_lt_of_le HKP.out z1
    have hs3 := Nat.lt_of_lt_of_le hs2 (Nat.le_trans zx (Nat.le_trans z2 (Nat.le_trans zy z3)))
    have hn_w1_1 : ¬ w1.heap.size = w.heap.size + 1 := by omega
    have hn_w1_1' : ¬ w.heap.size + 1 = w1.heap.size := by omega
    have hn_w1_2 : ¬ w1.heap.size = w.heap.size + 1 + 1 := by omega
    have hn_w1_2' : ¬ w.heap.size + 1 + 1 = w1.heap.size := by omega
    have hn_w3_1 : ¬ w3.heap.size = w.heap.size + 1 := by omega
    have hn_w3_1' : ¬ w.heap.size + 1 = w3.heap.size := by omega
    have hn_w3_2 : ¬ w3.heap.size = w.heap.size + 1 + 1 := by omega
    have hn_w3_2' : ¬ w.heap.size + 1 + 1 = w3.heap.size := by omega
    clear hs1 hs2 hs3
    have cko0 := ko.here.cell 0 _ rfl
    have cko1 := ko.here.cell 1 _ rfl
    have fko0 := Lib.frozen_of_heap ko.here 0
    have fko1 := Lib.frozen_of_heap ko.here 1
    have ckp0 := kp.here.cell 0 _ rfl
    have ckp1 := kp.here.cell 1 _ rfl
    have ckp2 := kp.here.cell 2 _ rfl
    have fkp0 := Lib.frozen_of_heap kp.here 0
    have fkp1 := Lib.frozen_of_heap kp.here 1
    have fkp2 := Lib.frozen_of_heap kp.here 2
    have ckx0 := kx.here.cell 0 _ rfl
    have ckx1 := kx.here.cell 1 _ rfl
    have ckz0 := kz.here.cell 0 _ rfl
    have ckz1 := kz.here.cell 1 _ rfl
    have ckz2 := kz.here.cell 2 _ rfl
    clear ox oy oz ko kp kr kx ky kz z1 z2 z3 zx zy zz lx ly lz
    go_wp2_with fail
    go_region
    all_goals (go_wp2; refine bodyPost_ret (v := .tuple #[.agg #[.bool X.1, .slice Ax X.2.length cx], .agg #[.bool Z.1.1, .slice Az Z.1.2.length cz, .slice Bz Z.2.length dz], .bool true]) (by simp [results, Tryz.results59, go_sem, cko0, cko1, ckp0, ckp1, ckp2]) rfl ?_)
    all_goals (rw [HV.out.1, HV.out.2.1, HV.out.2.2]; refine HW.out _ ?_; repeat (first | exact Chg.refl _ _ | refine Chg.setCell ?_ (by simp) _ | refine Chg.drew1 ?_))
  · obtain ⟨r1, r2, r3, r4⟩ := rest_none hb
    have ER := Lib.hid (show roundR r m = (X, false) by rw [r1, ← hX, r1])
    have HV := Lib.hid (show restS r m = zeroS ∧ restQ r m = zeroQ ∧ restB r m = false from ⟨r3, r4, r2⟩)
    obtain ⟨by_, hby⟩ : ∃ b, (makeQ X (ofZ 1)).2 = b := ⟨_, rfl⟩
    obtain ⟨bz_, hbz⟩ : ∃ b, (subQ r Y).2 = b := ⟨_, rfl⟩
    have EM := Lib.hid (show makeQ X (ofZ 1) = (Y, by_) by rw [← hY, ← hby])
    have ES := Lib.hid (show subQ r Y = (Z, bz_) by rw [← hZ, ← hbz])
    clear hby hbz
    clear hX hY hZ r1 r2 r3 r4 hb
    go_enter Tryz.func59, Tryz.ntmps59
    have kr_c0 := kr.here.cell 0 _ rfl
    have kr_c1 := kr.here.cell 1 _ rfl
    have kr_c2 := kr.here.cell 2 _ rfl
    go_wp2_with fail
    clear kr_c0 kr_c1 kr_c2
    refine ((implRatRound_any _ r m _ hz (OQr.out _ bb0) (HS.out.below bb0)).mono fun _ _ h => postSb_is ER.out h).mono ?_
    rintro e w1 ⟨ux, Sx, rfl, ox, lx, b1⟩
    obtain ⟨Ax, cx, rfl⟩ := ownS_form ox.here
    have bb1 := Below.next bb0 b1
    replace kr := kr.below b1
    replace ko := ko.below b1
    replace kp := kp.below b1
    have kx := box_new (w1) #[.bool X.1, .slice Ax X.2.length cx] 25
    have alx := below_al (Below.refl (w1).heap.size (w1)) (.cells #[.bool X.1, .slice Ax X.2.length cx] 25)
    have bbx := Below.next bb1 alx
    replace kr := kr.below alx
    replace ko := ko.below alx
    replace kp := kp.below alx
    replace ox := ox.below alx
    have cko0 := ko.here.cell 0 _ rfl
    have fko0 := Lib.frozen_of_heap ko.here 0
    have cko1 := ko.here.cell 1 _ rfl
    have fko1 := Lib.frozen_of_heap ko.here 1
    have ckp0 := kp.here.cell 0 _ rfl
    have fkp0 := Lib.frozen_of_heap kp.here 0
    have ckp1 := kp.here.cell 1 _ rfl
    have fkp1 := Lib.frozen_of_heap kp.here 1
    have ckp2 := kp.here.cell 2 _ rfl
    have fkp2 := Lib.frozen_of_heap kp.here 2
    go_wp2
    refine bodyPost_ret (v := .tuple #[.agg #[.bool false, .slice none 0 0], .agg #[.bool false, .slice none 0 0, .slice none 0 0], .bool false]) (by simp [results, Tryz.results59, go_sem, cko0, cko1, ckp0, ckp1, ckp2]) rfl ?_
    rw [HV.out.1, HV.out.2.1, HV.out.2.2]
    first | exact newSQb_zero bbx | exact newSQb_zero (below_set3 (below_set2 bbx (by omega)) (by omega))
end Go.Proofs.YtcenmdiblbooeaaGreatDoor

namespace Go.Proofs.YtcenmdiblbooeaaGreatDoor
open Go.RowKit

/-- the four cells of a row, where the table lies -/
def RowCells (W : World) (g k : Nat) (r : CR) : Prop := W.cell? ⟨g, k * 4, none⟩ = some (.string r.1) ∧ W.cell? ⟨g, k * 4 + 1, none⟩ = some (.string r.2.1) ∧ W.cell? ⟨g, k * 4 + 2, none⟩ = some (.int .i64 r.2.2.1) ∧ W.cell? ⟨g, k * 4 + 3, none⟩ = some (.int .i64 r.2.2.2)
theorem rowCells_of {W : World} {g : Nat} {l : List CR} (h : W.rangeAt g 0 (cellsT l)) {k : Nat} (hk : k < l.length) : RowCells W g k l[k] := by
  have f : ∀ j (hj : j < 4) v, (cellsC l[k])[j]? = some v → W.cell? ⟨g, k * 4 + j, none⟩ = some v := fun j hj v hv => by
    have := h (k * 4 + j) v (by rw [cellsT_get l k j hk hj]; exact hv)
    rwa [Nat.zero_add] at this
  exact ⟨f 0 (by decide) _ rfl, f 1 (by decide) _ rfl, f 2 (by decide) _ rfl, f 3 (by decide) _ rfl⟩
theorem range_new (w : World) (l : List Value) (T : TypeId) : (w.alloc (.cells l.toArray T)).rangeAt w.heap.size 0 l := by
  intro j v hv
  have hb : (w.alloc (.cells l.toArray T)).heap[w.heap.size]? = some (.cells l.toArray T (0, 0)) := Array.getElem?_push_size
  rw [Nat.zero_add]
  unfold World.cell?
  simp only [hb]
  simpa using hv
theorem range_below {w W : World} {g : Nat} {l : List Value} (h : w.rangeAt g 0 l) (hg : g < w.heap.size) (hb : Below w.heap.size w W) : W.rangeAt g 0 l := fun j v hv => (hb.cell hg).trans (h j v hv)
def TabPost (w : World) (e : Ending) (w' : World) : Prop := e = .returned (.slice (some ⟨w.heap.size, 0, none⟩) 20 20) ∧ w' = w.alloc (.cells (cellsT specT).toArray 99)
set_option maxHeartbeats 1000000 in
set_option maxRecDepth 100000 in
theorem l08Table_any (w : World) : Calls Tryz.prog 64 #[] w (TabPost w) := by
  go_enter Tryz.func64, Tryz.ntmps64
  go_wp2
  go_ret
  exact ⟨rfl, rfl⟩
end Go.Proofs.YtcenmdiblbooeaaGreatDoor

namespace Go.Proofs.YtcenmdiblbooeaaGreatDoor
open Go.RowKit

def RowPost (r : CR) (w : World) (e : Ending) (w' : World) : Prop := e = .returned (.agg #[.string r.1, .string r.2.1, .int .i64 r.2.2.1, .int .i64 r.2.2.2]) ∧ Below w.heap.size w w'
theorem below_set4 {W0 W : World} {g : Nat} {a b c d : Value} (h : Below W0.heap.size W0 W) (hg : W0.heap.size ≤ g) : Below W0.heap.size W0 ((((W.setCell ⟨g, 0, none⟩ a).setCell ⟨g, 1, none⟩ b).setCell ⟨g, 2, none⟩ c).setCell ⟨g, 3, none⟩ d) :=
  (((h.setCell (p := ⟨g, 0, none⟩) hg _).setCell (p := ⟨g, 1, none⟩) hg _).setCell (p := ⟨g, 2, none⟩) hg _).setCell (p := ⟨g, 3, none⟩) hg _
set_option maxHeartbeats 1000000 in
set_option maxRecDepth 100000 in
theorem l08Find_any (n : ByteArray) (w : World) : Calls Tryz.prog 126 #[.string n] w (RowPost (rowOf specT n) w) := by
  have kr := box_new w #[.string ⟨#[]⟩, .string ⟨#[]⟩, .int .i64 0, .int .i64 0] 99
  have b0 := below_al (Below.refl w.heap.size w) (.cells #[.string ⟨#[]⟩, .string ⟨#[]⟩, .int .i64 0, .int .i64 0] 99)
  obtain ⟨W0, hW0⟩ : ∃ W0, W0 = w.alloc (.cells #[.string ⟨#[]⟩, .string ⟨#[]⟩, .int .i64 0, .int .i64 0] 99) := ⟨_, rfl⟩
  rw [← hW0] at kr b0
  have HW := Lib.hid hW0
  clear hW0
  go_enter Tryz.func126, Tryz.ntmps126
  go_wp2_with fail
  rw [← HW.out]
  refine (l08Table_any _).mono ?_
  rintro e w1 ⟨rfl, hw1⟩
  have b1 : Below W0.heap.size W0 w1 := by rw [hw1]; exact (Below.refl _ _).alloc (Nat.le_refl _) _
  have hr1 : w1.rangeAt W0.heap.size 0 (cellsT specT) := by rw [hw1]; exact range_new _ _ _
  have hg1 : W0.heap.size < w1.heap.size := by rw [hw1]; simp
  have HR := Lib.hid (show ∀ W, Below w1.heap.size w1 W → ∀ k (hk : k < 20), RowCells W W0.heap.size k (specT[k]'hk) from fun W hb k hk => rowCells_of (range_below hr1 hg1 hb) hk)
  have HK := Lib.hid (kr.below b1)
  have B1 := Lib.hid (Below.next b0 b1)
  generalize W0.heap.size = g at HR hg1
  clear hw1 hr1 b1 kr b0 HW
  go_wp2
  go_loopw [7] (fun i wr => ∃ k : Nat, k ≤ 20 ∧ i = .int .i64 k ∧ Hid (∀ r ∈ specT.take k, ¬ r.1 = n) ∧ Below w1.heap.size w1 wr) (fun i _ => 20 - (intOf i).toNat)
  case atStart => exact ⟨0, Nat.zero_le _, rfl, Lib.hid (fun r hr => absurd hr (by simp)), Below.refl _ _⟩
  case round =>
    obtain ⟨k, hk, rfl, hp, hb⟩ := hrel
    by_cases hlt : k < 20
    · have hix := HR.out wr hb k hlt
      have HM := Lib.hid (show specT[k] ∈ specT from List.getElem_mem _)
      have HN := Lib.hid (fun h => take_next hp.out (show k < specT.length from hlt) h)
      generalize specT[k] = r at hix HM HN
      obtain ⟨c, m, p, q⟩ := r
      obtain ⟨x0, x1, x2, x3⟩ := hix
      dsimp only at x0 x1 x2 x3
      have hal := below_al (Below.refl wr.heap.size wr) (.cells #[.string c, .string m, .int .i64 p, .int .i64 q] 99)
      by_cases he : c = n
      · subst he
        have hA := Lib.hid (rowOf_mem specT_codes HM.out)
        have ko := (HK.out.below hb).below hal
        have HB := Lib.hid (Below.next (Below.next B1.out hb) hal)
        have co0 := ko.here.cell 0 _ rfl
        have co1 := ko.here.cell 1 _ rfl
        have co2 := ko.here.cell 2 _ rfl
        have co3 := ko.here.cell 3 _ rfl
        have fo0 := Lib.frozen_of_heap ko.here 0
        have fo1 := Lib.frozen_of_heap ko.here 1
        have fo2 := Lib.frozen_of_heap ko.here 2
        have fo3 := Lib.frozen_of_heap ko.here 3
        clear HM HN hp ko hal
        go_wp2
        refine bodyPost_ret (v := .agg #[.string c, .string m, .int .i64 p, .int .i64 q]) (by simp [results, Tryz.results126, go_sem, co0, co1, co2, co3]) rfl ?_
        unfold RowPost
        rw [hA.out]
        exact ⟨rfl, below_set4 HB.out (Nat.le_refl _)⟩
      · have HN2 := Lib.hid (HN.out he)
        clear HM HN hp hal
        have hne := bytes_neC he
        go_wp2
        exact ⟨⟨k + 1, by omega, by go_num, HN2, hb.alloc (by have := hb.size; omega) _⟩, by simp [intOf]; omega⟩
    · obtain rfl : k = 20 := by omega
      have hA := Lib.hid (rowOf_none (l := specT) (n := n) (by rw [← List.take_of_length_le (l := specT) (i := 20) (by decide)]; exact hp.out))
      have ko := HK.out.below hb
      have HB := Lib.hid (Below.next B1.out hb)
      have co0 := ko.here.cell 0 _ rfl
      have co1 := ko.here.cell 1 _ rfl
      have co2 := ko.here.cell 2 _ rfl
      have co3 := ko.here.cell 3 _ rfl
      have fo0 := Lib.frozen_of_heap ko.here 0
      have fo1 := Lib.frozen_of_heap ko.here 1
      have fo2 := Lib.frozen_of_heap ko.here 2
      have fo3 := Lib.frozen_of_heap ko.here 3
      clear hp ko
      go_wp2
      refine bodyPost_ret (v := .agg #[.string ⟨#[]⟩, .string ⟨#[]⟩, .int .i64 0, .int .i64 0]) (by simp [results, Tryz.results126, go_sem, co0, co1, co2, co3]) rfl ?_
      unfold RowPost
      rw [hA.out]
      first | exact ⟨rfl, HB.out⟩ | exact ⟨rfl, below_set4 HB.out (Nat.le_refl _)⟩
theorem field_row0 (c m : ByteArray) (p q : Int) (W : World) : (Instr.field 99 (.agg #[.string c, .string m, .int .i64 p, .int .i64 q]) 0).run Tryz.prog W = .ok (.string c) W := by kernel_rfl
theorem field_row1 (c m : ByteArray) (p q : Int) (W : World) : (Instr.field 99 (.agg #[.string c, .string m, .int .i64 p, .int .i64 q]) 1).run Tryz.prog W = .ok (.string m) W := by kernel_rfl
theorem field_row2 (c m : ByteArray) (p q : Int) (W : World) : (Instr.field 99 (.agg #[.string c, .string m, .int .i64 p, .int .i64 q]) 2).run Tryz.prog W = .ok (.int .i64 p) W := by kernel_rfl
theorem field_row3 (c m : ByteArray) (p q : Int) (W : World) : (Instr.field 99 (.agg #[.string c, .string m, .int .i64 p, .int .i64 q]) 3).run Tryz.prog W = .ok (.int .i64 q) W := by kernel_rfl
theorem empty_list : (⟨#[]⟩ : ByteArray).toList = [] := by rw [ByteArray.toList_eq]
theorem known_neq (n : ByteArray) : ((rowOf specT n).1.toList == ([] : List UInt8)) = !knownC n := by
  rw [← known_ne n]
  by_cases h : (rowOf specT n).1 = ⟨#[]⟩
  · rw [h, empty_list]; rfl
  · have h2 := bytes_neC h
    rw [empty_list] at h2
    rw [h2, decide_eq_true h]
    rfl
set_option maxHeartbeats 400000 in
set_option maxRecDepth 100000 in
theorem specCurKnown_any (n : ByteArray) (w : World) : Calls Tryz.prog 124 #[.string n] w (Postb (knownC n) w) := by
  go_enter Tryz.func124, Tryz.ntmps124
  go_wp2_with fail
  refine (l08Find_any n _).mono ?_
  rintro e w1 ⟨rfl, b1⟩
  have hk := known_neq n
  generalize rowOf specT n = r at *
  obtain ⟨c, m, p, q⟩ := r
  dsimp only at hk ⊢
  have hk2 : (c.toList != ([] : List UInt8)) = knownC n := by rw [bne, hk, Bool.not_not]
  generalize knownC n = b at *
  have hf := field_row0 c m p q
  go_wp2
  go_ret
  exact ⟨rfl, b1⟩
set_option maxHeartbeats 400000 in
set_option maxRecDepth 100000 in
theorem specCurPlaces_any (n : ByteArray) (w : World) : Calls Tryz.prog 90 #[.string n] w fun e w' => e = .returned (.int .i64 (placesC n)) ∧ Below w.heap.size w w' := by
  go_enter Tryz.func90, Tryz.ntmps90
  go_wp2_with fail
  refine (l08Find_any n _).mono ?_
  rintro e w1 ⟨rfl, b1⟩
  have hf := field_row2 (rowOf specT n).1 (rowOf specT n).2.1 (rowOf specT n).2.2.1 (rowOf specT n).2.2.2
  go_wp2
  go_ret
  exact ⟨rfl, b1⟩
end Go.Proofs.YtcenmdiblbooeaaGreatDoor

namespace Go.Proofs.YtcenmdiblbooeaaGreatDoor
open Go.RowKit

/-- what a call answers that keeps the memory of its argument: an amount that leans on no other blocks, and a bool -/
def KeptM (S : List Nat) (R0 : MI) (R1 : Bool) (w : World) (e : Ending) (w' : World) : Prop :=
  ∃ (v : Value) (T : List Nat), e = .returned (.tuple #[v, .bool R1]) ∧ At T (OwnM v R0) w' ∧ (∀ i ∈ T, i ∈ S) ∧ Below w.heap.size w w'
theorem keptM_at {r : Nat} {S : List Nat} {c0 c1 c2 : Value} {x : MI} {b : Bool} {w W : World} (o : At S (OwnM (.agg #[c0, c1, c2]) x) W) (hS : ∀ i ∈ S, i < w.heap.size) (hr : w.heap.size ≤ r) (hW : Below w.heap.size w W) :
    KeptM S x b w (.returned (.tuple #[.agg #[c0, c1, c2], .bool b])) (((W.setCell ⟨r, 0, none⟩ c0).setCell ⟨r, 1, none⟩ c1).setCell ⟨r, 2, none⟩ c2) :=
  ⟨_, S, rfl, o.chg chg_set3M (fun i hi hm => by have := hS i hi; simp at hm; omega), fun i hi => hi, below_set3 hW hr⟩
theorem keptM_zero {S : List Nat} {w W : World} (hW : Below w.heap.size w W) : KeptM S zeroM false w (.returned (.tuple #[.agg #[.string ⟨#[]⟩, .bool false, .slice none 0 0], .bool false])) W :=
  ⟨_, [], rfl, atM_zero _, fun _ hi => absurd hi List.not_mem_nil, hW⟩
theorem keptM_eq {S : List Nat} {q p : MI × Bool} (e : q = p) {w w' : World} {n : Ending} (h : KeptM S q.1 q.2 w n w') : KeptM S p.1 p.2 w n w' := e ▸ h
set_option maxHeartbeats 1000000 in
set_option maxRecDepth 100000 in
theorem specMoneyOk_any (vm : Value) (m : MI) (w : World) (hl : m.2.2.length ≤ 1048576) (hm : OwnM vm m w) :
    Calls Tryz.prog 89 #[vm] w (Postb (okM m) w) := by
  have Hm := Lib.hid hm
  obtain ⟨Am, cm, rfl⟩ := ownM_form hm
  have OMm := Lib.hid (show ∀ W, Below w.heap.size w W → OwnM (.agg #[.string m.1, .bool m.2.1, .slice Am m.2.2.length cm]) m W from fun W hb => OwnM.below Hm.out hb)
  have OIm := Lib.hid (show ∀ W, Below w.heap.size w W → OwnI (.slice Am m.2.2.length cm) m.2.2 W from fun W hb => ownM_open (OMm.out W hb))
  have OSm := Lib.hid (show ∀ W, Below w.heap.size w W → OwnS (.agg #[.bool m.2.1, .slice Am m.2.2.length cm]) m.2 W from fun W hb => OwnS.mk (OIm.out W hb))
  clear hm
  have bb0 : Below w.heap.size w (w.alloc (.cells #[.string m.1, .bool m.2.1, .slice Am m.2.2.length cm] 27)) := below_al (Below.refl _ _) _
  have km := (box_new w #[.string m.1, .bool m.2.1, .slice Am m.2.2.length cm] 27)
  go_enter Tryz.func89, Tryz.ntmps89
  have km_c0 := km.here.cell 0 _ rfl
  have km_c1 := km.here.cell 1 _ rfl
  have km_c2 := km.here.cell 2 _ rfl
  go_wp2_with fail
  clear km_c0 km_c1 km_c2
  refine (specCurKnown_any m.1 _).mono ?_
  rintro e w1 ⟨rfl, b1⟩
  have bb1 := Below.next bb0 b1
  replace km := km.below b1
  by_cases ok0 : knownC m.1 = true
  · rw [ok0]
    have HO0 := Lib.hid ok0
    clear ok0
    have km_c0 := km.here.cell 0 _ rfl
    have km_c1 := km.here.cell 1 _ rfl
    have km_c2 := km.here.cell 2 _ rfl
    go_wp2_with fail
    clear km_c0 km_c1 km_c2
    refine (specIntOk_any _ m.2 _ hl (OwnS.rd (OSm.out _ bb1))).mono ?_
    rintro e w2 ⟨rfl, b2⟩
    have bb2 := Below.next bb1 b2
    replace km := km.below b2
    by_cases ok1 : okS m.2 = true
    · rw [ok1]
      have HO1 := Lib.hid ok1
      clear ok1
      have HV := Lib.hid (show okM m = decide ((m.2.2.length : Int) ≤ 4) by unfold okM; rw [HO0.out, HO1.out, Bool.true_and, Bool.true_and, decide_eq_decide]; omega)
      have km_c0 := km.here.cell 0 _ rfl
      have km_c1 := km.here.cell 1 _ rfl
      have km_c2 := km.here.cell 2 _ rfl
      clear hl
      go_wp2
      go_ret
      exact ⟨ret_bool HV.out.symm, bb2⟩
    · have ok1' : okS m.2 = false := by simpa using ok1
      have HV := Lib.hid (show okM m = false by unfold okM; rw [ok1', Bool.and_false, Bool.false_and])
      rw [ok1']
      clear ok1 ok1'
      go_wp2
      go_ret
      exact ⟨ret_bool HV.out.symm, bb2⟩
  · have ok0' : knownC m.1 = false := by simpa using ok0
    have HV := Lib.hid (show okM m = false by unfold okM; rw [ok0', Bool.false_and, Bool.false_and])
    rw [ok0']
    clear ok0 ok0'
    go_wp2
    go_ret
    exact ⟨ret_bool HV.out.symm, bb1⟩
set_option maxHeartbeats 1000000 in
set_option maxRecDepth 100000 in
theorem l09Make_any (cu : ByteArray) (vx : Value) (x : SI) (S : List Nat) (w : World) (hl : x.2.length ≤ 1048576) (hx : At S (OwnS vx x) w) :
    Calls Tryz.prog 49 #[.string cu, vx] w (KeptM S (makeM cu x).1 (makeM cu x).2 w) := by
  obtain ⟨Ax, cx, rfl⟩ := ownS_form hx.here
  have OX := Lib.hid (show ∀ W, Below w.heap.size w W → At S (OwnM (.agg #[.string cu, .bool x.1, .slice Ax x.2.length cx]) (cu, x)) W from fun W hb => (hx.below hb).imp fun _ h => OwnM.mk (q := (cu, x)) (ownS_openM h))
  have HLT := Lib.hid hx.lt
  clear hx
  have bb0 : Below w.heap.size w ((w.alloc (.cells #[.bool x.1, .slice Ax x.2.length cx] 25)).alloc (.cells #[.string ⟨#[]⟩, .bool false, .slice none 0 0] 27)) := below_al (below_al (Below.refl _ _) _) _
  have kx := (box_new w #[.bool x.1, .slice Ax x.2.length cx] 25).below (below_al (Below.refl _ _) (.cells #[.string ⟨#[]⟩, .bool false, .slice none 0 0] 27))
  have ko := (box_new (w.alloc (.cells #[.bool x.1, .slice Ax x.2.length cx] 25)) #[.string ⟨#[]⟩, .bool false, .slice none 0 0] 27)
  rw [show (w.alloc (.cells #[.bool x.1, .slice Ax x.2.length cx] 25)).heap.size = w.heap.size + 1 by simp] at ko
  have kd := box_new (((w.alloc (.cells #[.bool x.1, .slice Ax x.2.length cx] 25)).alloc (.cells #[.string ⟨#[]⟩, .bool false, .slice none 0 0] 27))) #[.string cu, .bool x.1, .slice Ax x.2.length cx] 27
  have ald := below_al (Below.refl (((w.alloc (.cells #[.bool x.1, .slice Ax x.2.length cx] 25)).alloc (.cells #[.string ⟨#[]⟩, .bool false, .slice none 0 0] 27))).heap.size (((w.alloc (.cells #[.bool x.1, .slice Ax x.2.length cx] 25)).alloc (.cells #[.string ⟨#[]⟩, .bool false, .slice none 0 0] 27)))) (.cells #[.string cu, .bool x.1, .slice Ax x.2.length cx] 27)
  have bbd := Below.next bb0 ald
  replace kx := kx.below ald
  replace ko := ko.below ald
  rw [show ((w.alloc (.cells #[.bool x.1, .slice Ax x.2.length cx] 25)).alloc (.cells #[.string ⟨#[]⟩, .bool false, .slice none 0 0] 27)).heap.size = w.heap.size + 1 + 1 by simp] at kd
  go_enter Tryz.func49, Tryz.ntmps49
  have kx_c0 := kx.here.cell 0 _ rfl
  have kx_c1 := kx.here.cell 1 _ rfl
  have kd_c0 := kd.here.cell 0 _ rfl
  have kd_c1 := kd.here.cell 1 _ rfl
  have kd_c2 := kd.here.cell 2 _ rfl
  go_wp2_with fail
  clear kx_c0 kx_c1 kd_c0 kd_c1 kd_c2
  refine (specMoneyOk_any _ (cu, x) _ hl (OX.out _ bbd).here).mono ?_
  rintro e w1 ⟨rfl, b1⟩
  have bb1 := Below.next bbd b1
  replace kx := kx.below b1
  replace ko := ko.below b1
  replace kd := kd.below b1
  by_cases ok : okM (cu, x) = true
  · rw [ok]
    have HV := Lib.hid (show makeM cu x = ((cu, x), true) by unfold makeM; rw [if_pos ok])
    clear ok kx
    have HW := Lib.hid (keptM_at (r := w.heap.size + 1) (b := true) (OX.out _ bb1) HLT.out (by omega) bb1)
    have kd_c0 := kd.here.cell 0 _ rfl
    have kd_c1 := kd.here.cell 1 _ rfl
    have kd_c2 := kd.here.cell 2 _ rfl
    have cz0 := ko.here.cell 0 _ rfl
    have fz0 := Lib.frozen_of_heap ko.here 0
    have cz1 := ko.here.cell 1 _ rfl
    have fz1 := Lib.frozen_of_heap ko.here 1
    have cz2 := ko.here.cell 2 _ rfl
    have fz2 := Lib.frozen_of_heap ko.here 2
    clear kd ko
    go_wp2
    refine bodyPost_ret (v := .tuple #[.agg #[.string cu, .bool x.1, .slice Ax x.2.length cx], .bool true]) (by simp [results, Tryz.results49, go_sem, cz0, cz1, cz2]) rfl ?_
    rw [HV.out]
    exact HW.out
  · have ok' : okM (cu, x) = false := by simpa using ok
    have HV := Lib.hid (show makeM cu x = (zeroM, false) by unfold makeM; rw [if_neg ok])
    rw [ok']
    clear ok ok' kx kd
    have cz0 := ko.here.cell 0 _ rfl
    have fz0 := Lib.frozen_of_heap ko.here 0
    have cz1 := ko.here.cell 1 _ rfl
    have fz1 := Lib.frozen_of_heap ko.here 1
    have cz2 := ko.here.cell 2 _ rfl
    have fz2 := Lib.frozen_of_heap ko.here 2
    go_wp2
    refine bodyPost_ret (v := .tuple #[.agg #[.string ⟨#[]⟩, .bool false, .slice none 0 0], .bool false]) (by simp [results, Tryz.results49, go_sem, cz0, cz1, cz2]) rfl ?_
    rw [HV.out]
    first | exact keptM_zero bb1 | exact keptM_zero (below_set3 bb1 (by omega))
end Go.Proofs.YtcenmdiblbooeaaGreatDoor

namespace Go.Proofs.YtcenmdiblbooeaaGreatDoor
open Go.RowKit

def RowPostb (r : CR) (b : Bool) (w : World) (e : Ending) (w' : World) : Prop := e = .returned (.tuple #[.agg #[.string r.1, .string r.2.1, .int .i64 r.2.2.1, .int .i64 r.2.2.2], .bool b]) ∧ Below w.heap.size w w'
theorem knownI {r : CR} (h : r ∈ implT) : knownC r.1 = true := List.any_eq_true.2 ⟨r.1, List.mem_map_of_mem (implT_sub r h), decide_eq_true rfl⟩
theorem knownI_none {n : ByteArray} (h : ∀ r ∈ implT, ¬ r.1 = n) : knownC n = false := by
  cases e : knownC n with
  | false => rfl
  | true =>
    obtain ⟨r, hr, he, _⟩ := known_row e
    exact absurd he (h r (specT_sub r hr))
set_option maxHeartbeats 1000000 in
set_option maxRecDepth 100000 in
theorem implFind_any (n : ByteArray) (w : World) (ht : CurTab w) : Calls Tryz.prog 74 #[.string n] w (RowPostb (rowOf specT n) (knownC n) w) := by
  have kr := box_new w #[.string ⟨#[]⟩, .string ⟨#[]⟩, .int .i64 0, .int .i64 0] 109
  have b0 := below_al (Below.refl w.heap.size w) (.cells #[.string ⟨#[]⟩, .string ⟨#[]⟩, .int .i64 0, .int .i64 0] 109)
  have HT := Lib.hid (ht.below b0)
  obtain ⟨W0, hW0⟩ : ∃ W0, W0 = w.alloc (.cells #[.string ⟨#[]⟩, .string ⟨#[]⟩, .int .i64 0, .int .i64 0] 109) := ⟨_, rfl⟩
  rw [← hW0] at kr b0 HT
  have HW := Lib.hid hW0
  have HI := Lib.hid cur_index
  have HK := Lib.hid kr
  have B1 := Lib.hid b0
  clear hW0 kr b0 ht
  go_enter Tryz.func74, Tryz.ntmps74
  go_wp2
  rw [← HW.out]
  refine wp_load_mid 143 _ (by rfl) 0 0 (by rfl) (cellsT implT) _ HT.out.range Tryz.underlying143 (by rfl) curInfo ?_
  generalize hTA : (cellsT implT).toArray = TA at *
  clear hTA HW
  go_wp2
  go_loopw [7] (fun i wr => ∃ k : Nat, k ≤ 20 ∧ i = .int .i64 k ∧ Hid (∀ r ∈ implT.take k, ¬ r.1 = n) ∧ Below W0.heap.size W0 wr) (fun i _ => 20 - (intOf i).toNat)
  case atStart => exact ⟨0, Nat.zero_le _, rfl, Lib.hid (fun r hr => absurd hr (by simp)), Below.refl _ _⟩
  case round =>
    obtain ⟨k, hk, rfl, hp, hb⟩ := hrel
    by_cases hlt : k < 20
    · have hix := HI.out k hlt
      have HM := Lib.hid (show implT[k] ∈ implT from List.getElem_mem _)
      have HN := Lib.hid (fun h => take_next hp.out (show k < implT.length from hlt) h)
      generalize implT[k] = r at hix HM HN
      obtain ⟨c, m, p, q⟩ := r
      simp only [cellsC] at hix
      have hal := below_al (Below.refl wr.heap.size wr) (.cells #[.string c, .string m, .int .i64 p, .int .i64 q] 109)
      by_cases he : c = n
      · subst he
        have hA := Lib.hid (show rowOf specT c = _ from (rowOf_eq c).symm.trans (rowOf_mem implT_codes HM.out))
        have hA2 := Lib.hid (knownI HM.out)
        have ko := (HK.out.below hb).below hal
        have HB := Lib.hid (Below.next (Below.next B1.out hb) hal)
        have co0 := ko.here.cell 0 _ rfl
        have co1 := ko.here.cell 1 _ rfl
        have co2 := ko.here.cell 2 _ rfl
        have co3 := ko.here.cell 3 _ rfl
        have fo0 := Lib.frozen_of_heap ko.here 0
        have fo1 := Lib.frozen_of_heap ko.here 1
        have fo2 := Lib.frozen_of_heap ko.here 2
        have fo3 := Lib.frozen_of_heap ko.here 3
        clear HM HN hp ko hal
        go_wp2
        refine bodyPost_ret (v := .tuple #[.agg #[.string c, .string m, .int .i64 p, .int .i64 q], .bool true]) (by simp [results, Tryz.results74, go_sem, co0, co1, co2, co3]) rfl ?_
        unfold RowPostb
        rw [hA.out, show knownC c = true from hA2.out]
        exact ⟨rfl, below_set4 HB.out (Nat.le_refl _)⟩
      · have HN2 := Lib.hid (HN.out he)
        clear HM HN hp hal
        have hne := bytes_neC he
        go_wp2
        exact ⟨⟨k + 1, by omega, by go_num, HN2, hb.alloc (by have := hb.size; omega) _⟩, by simp [intOf]; omega⟩
    · obtain rfl : k = 20 := by omega
      have hnone : ∀ r ∈ implT, ¬ r.1 = n := by rw [← List.take_of_length_le (l := implT) (i := 20) (by decide)]; exact hp.out
      have hA := Lib.hid (show rowOf specT n = zeroC from (rowOf_eq n).symm.trans (rowOf_none hnone))
      have hA2 := Lib.hid (knownI_none hnone)
      have ko := HK.out.below hb
      have HB := Lib.hid (Below.next B1.out hb)
      have co0 := ko.here.cell 0 _ rfl
      have co1 := ko.here.cell 1 _ rfl
      have co2 := ko.here.cell 2 _ rfl
      have co3 := ko.here.cell 3 _ rfl
      have fo0 := Lib.frozen_of_heap ko.here 0
      have fo1 := Lib.frozen_of_heap ko.here 1
      have fo2 := Lib.frozen_of_heap ko.here 2
      have fo3 := Lib.frozen_of_heap ko.here 3
      clear hp ko hnone
      go_wp2
      refine bodyPost_ret (v := .tuple #[.agg #[.string ⟨#[]⟩, .string ⟨#[]⟩, .int .i64 0, .int .i64 0], .bool false]) (by simp [results, Tryz.results74, go_sem, co0, co1, co2, co3]) rfl ?_
      unfold RowPostb
      rw [hA.out, hA2.out]
      first | exact ⟨rfl, HB.out⟩ | exact ⟨rfl, below_set4 HB.out (Nat.le_refl _)⟩
set_option maxHeartbeats 400000 in
set_option maxRecDepth 100000 in
theorem implCurKnown_any (n : ByteArray) (w : World) (ht : CurTab w) : Calls Tryz.prog 73 #[.string n] w fun e w' => e = .returned (.bool (knownC n)) ∧ Below w.heap.size w w' := by
  go_enter Tryz.func73, Tryz.ntmps73
  go_wp2_with fail
  refine (implFind_any n _ ht).mono ?_
  rintro e w1 ⟨rfl, b1⟩
  go_wp2
  go_ret
  exact ⟨rfl, below_al b1 _⟩
set_option maxHeartbeats 400000 in
set_option maxRecDepth 100000 in
theorem implCurPlaces_any (n : ByteArray) (w : World) (ht : CurTab w) : Calls Tryz.prog 36 #[.string n] w fun e w' => e = .returned (.int .i64 (placesC n)) ∧ Below w.heap.size w w' := by
  go_enter Tryz.func36, Tryz.ntmps36
  go_wp2_with fail
  refine (implFind_any n _ ht).mono ?_
  rintro e w1 ⟨rfl, b1⟩
  go_wp2
  go_ret
  exact ⟨rfl, below_al b1 _⟩
end Go.Proofs.YtcenmdiblbooeaaGreatDoor

namespace Go.Proofs.YtcenmdiblbooeaaGreatDoor
open Go.RowKit

set_option maxHeartbeats 1000000 in
set_option maxRecDepth 100000 in
theorem implMoneyOk_any (vm : Value) (m : MI) (w : World) (hl : m.2.2.length ≤ 1048576) (hm : OwnM vm m w) (ht : CurTab w) :
    Calls Tryz.prog 35 #[vm] w (Postb (okM m) w) := by
  have Hm := Lib.hid hm
  obtain ⟨Am, cm, rfl⟩ := ownM_form hm
  have OMm := Lib.hid (show ∀ W, Below w.heap.size w W → OwnM (.agg #[.string m.1, .bool m.2.1, .slice Am m.2.2.length cm]) m W from fun W hb => OwnM.below Hm.out hb)
  have OIm := Lib.hid (show ∀ W, Below w.heap.size w W → OwnI (.slice Am m.2.2.length cm) m.2.2 W from fun W hb => ownM_open (OMm.out W hb))
  have OSm := Lib.hid (show ∀ W, Below w.heap.size w W → OwnS (.agg #[.bool m.2.1, .slice Am m.2.2.length cm]) m.2 W from fun W hb => OwnS.mk (OIm.out W hb))
  clear hm
  have HT := Lib.hid ht
  clear ht
  have bb0 : Below w.heap.size w (w.alloc (.cells #[.string m.1, .bool m.2.1, .slice Am m.2.2.length cm] 27)) := below_al (Below.refl _ _) _
  have km := (box_new w #[.string m.1, .bool m.2.1, .slice Am m.2.2.length cm] 27)
  go_enter Tryz.func35, Tryz.ntmps35
  have km_c0 := km.here.cell 0 _ rfl
  have km_c1 := km.here.cell 1 _ rfl
  have km_c2 := km.here.cell 2 _ rfl
  go_wp2_with fail
  clear km_c0 km_c1 km_c2
  refine (implCurKnown_any m.1 _ (HT.out.below bb0)).mono ?_
  rintro e w1 ⟨rfl, b1⟩
  have bb1 := Below.next bb0 b1
  replace km := km.below b1
  by_cases ok0 : knownC m.1 = true
  · rw [ok0]
    have HO0 := Lib.hid ok0
    clear ok0
    have km_c0 := km.here.cell 0 _ rfl
    have km_c1 := km.here.cell 1 _ rfl
    have km_c2 := km.here.cell 2 _ rfl
    go_wp2_with fail
    clear km_c0 km_c1 km_c2
    refine (implIntOk_any _ m.2 _ hl (OwnS.rd (OSm.out _ bb1))).mono ?_
    rintro e w2 ⟨rfl, b2⟩
    have bb2 := Below.next bb1 b2
    replace km := km.below b2
    by_cases ok1 : okS m.2 = true
    · rw [ok1]
      have HO1 := Lib.hid ok1
      clear ok1
      have HV := Lib.hid (show okM m = decide ((m.2.2.length : Int) ≤ 4) by unfold okM; rw [HO0.out, HO1.out, Bool.true_and, Bool.true_and, decide_eq_decide]; omega)
      have km_c0 := km.here.cell 0 _ rfl
      have km_c1 := km.here.cell 1 _ rfl
      have km_c2 := km.here.cell 2 _ rfl
      clear hl
      go_wp2
      go_ret
      exact ⟨ret_bool HV.out.symm, bb2⟩
    · have ok1' : okS m.2 = false := by simpa using ok1
      have HV := Lib.hid (show okM m = false by unfold okM; rw [ok1', Bool.and_false, Bool.false_and])
      rw [ok1']
      clear ok1 ok1'
      go_wp2
      go_ret
      exact ⟨ret_bool HV.out.symm, bb2⟩
  · have ok0' : knownC m.1 = false := by simpa using ok0
    have HV := Lib.hid (show okM m = false by unfold okM; rw [ok0', Bool.false_and, Bool.false_and])
    rw [ok0']
    clear ok0 ok0'
    go_wp2
    go_ret
    exact ⟨ret_bool HV.out.symm, bb1⟩
set_option maxHeartbeats 1000000 in
set_option maxRecDepth 100000 in
theorem validMoney_any (cu : ByteArray) (vx : Value) (x : SI) (S : List Nat) (w : World) (hl : x.2.length ≤ 1048576) (hx : At S (OwnS vx x) w) (ht : CurTab w) :
    Calls Tryz.prog 39 #[.string cu, vx] w (KeptM S (makeM cu x).1 (makeM cu x).2 w) := by
  obtain ⟨Ax, cx, rfl⟩ := ownS_form hx.here
  have HT := Lib.hid ht
  clear ht
  have OX := Lib.hid (show ∀ W, Below w.heap.size w W → At S (OwnM (.agg #[.string cu, .bool x.1, .slice Ax x.2.length cx]) (cu, x)) W from fun W hb => (hx.below hb).imp fun _ h => OwnM.mk (q := (cu, x)) (ownS_openM h))
  have HLT := Lib.hid hx.lt
  clear hx
  have bb0 : Below w.heap.size w ((w.alloc (.cells #[.bool x.1, .slice Ax x.2.length cx] 25)).alloc (.cells #[.string ⟨#[]⟩, .bool false, .slice none 0 0] 27)) := below_al (below_al (Below.refl _ _) _) _
  have kx := (box_new w #[.bool x.1, .slice Ax x.2.length cx] 25).below (below_al (Below.refl _ _) (.cells #[.string ⟨#[]⟩, .bool false, .slice none 0 0] 27))
  have ko := (box_new (w.alloc (.cells #[.bool x.1, .slice Ax x.2.length cx] 25)) #[.string ⟨#[]⟩, .bool false, .slice none 0 0] 27)
  rw [show (w.alloc (.cells #[.bool x.1, .slice Ax x.2.length cx] 25)).heap.size = w.heap.size + 1 by simp] at ko
  have kd := box_new (((w.alloc (.cells #[.bool x.1, .slice Ax x.2.length cx] 25)).alloc (.cells #[.string ⟨#[]⟩, .bool false, .slice none 0 0] 27))) #[.string cu, .bool x.1, .slice Ax x.2.length cx] 27
  have ald := below_al (Below.refl (((w.alloc (.cells #[.bool x.1, .slice Ax x.2.length cx] 25)).alloc (.cells #[.string ⟨#[]⟩, .bool false, .slice none 0 0] 27))).heap.size (((w.alloc (.cells #[.bool x.1, .slice Ax x.2.length cx] 25)).alloc (.cells #[.string ⟨#[]⟩, .bool false, .slice none 0 0] 27)))) (.cells #[.string cu, .bool x.1, .slice Ax x.2.length cx] 27)
  have bbd := Below.next bb0 ald
  replace kx := kx.below ald
  replace ko := ko.below ald
  rw [show ((w.alloc (.cells #[.bool x.1, .slice Ax x.2.length cx] 25)).alloc (.cells #[.string ⟨#[]⟩, .bool false, .slice none 0 0] 27)).heap.size = w.heap.size + 1 + 1 by simp] at kd
  go_enter Tryz.func39, Tryz.ntmps39
  have kx_c0 := kx.here.cell 0 _ rfl
  have kx_c1 := kx.here.cell 1 _ rfl
  have kd_c0 := kd.here.cell 0 _ rfl
  have kd_c1 := kd.here.cell 1 _ rfl
  have kd_c2 := kd.here.cell 2 _ rfl
  go_wp2_with fail
  clear kx_c0 kx_c1 kd_c0 kd_c1 kd_c2
  refine (implMoneyOk_any _ (cu, x) _ hl (OX.out _ bbd).here (HT.out.below bbd)).mono ?_
  rintro e w1 ⟨rfl, b1⟩
  have bb1 := Below.next bbd b1
  replace kx := kx.below b1
  replace ko := ko.below b1
  replace kd := kd.below b1
  by_cases ok : okM (cu, x) = true
  · rw [ok]
    have HV := Lib.hid (show makeM cu x = ((cu, x), true) by unfold makeM; rw [if_pos ok])
    clear ok kx
    have HW := Lib.hid (keptM_at (r := w.heap.size + 1) (b := true) (OX.out _ bb1) HLT.out (by omega) bb1)
    have kd_c0 := kd.here.cell 0 _ rfl
    have kd_c1 := kd.here.cell 1 _ rfl
    have kd_c2 := kd.here.cell 2 _ rfl
    have cz0 := ko.here.cell 0 _ rfl
    have fz0 := Lib.frozen_of_heap ko.here 0
    have cz1 := ko.here.cell 1 _ rfl
    have fz1 := Lib.frozen_of_heap ko.here 1
    have cz2 := ko.here.cell 2 _ rfl
    have fz2 := Lib.frozen_of_heap ko.here 2
    clear kd ko
    go_wp2
    refine bodyPost_ret (v := .tuple #[.agg #[.string cu, .bool x.1, .slice Ax x.2.length cx], .bool true]) (by simp [results, Tryz.results39, go_sem, cz0, cz1, cz2]) rfl ?_
    rw [HV.out]
    exact HW.out
  · have ok' : okM (cu, x) = false := by simpa using ok
    have HV := Lib.hid (show makeM cu x = (zeroM, false) by unfold makeM; rw [if_neg ok])
    rw [ok']
    clear ok ok' kx kd
    have cz0 := ko.here.cell 0 _ rfl
    have fz0 := Lib.frozen_of_heap ko.here 0
    have cz1 := ko.here.cell 1 _ rfl
    have fz1 := Lib.frozen_of_heap ko.here 1
    have cz2 := ko.here.cell 2 _ rfl
    have fz2 := Lib.frozen_of_heap ko.here 2
    go_wp2
    refine bodyPost_ret (v := .tuple #[.agg #[.string ⟨#[]⟩, .bool false, .slice none 0 0], .bool false]) (by simp [results, Tryz.results39, go_sem, cz0, cz1, cz2]) rfl ?_
    rw [HV.out]
    first | exact keptM_zero bb1 | exact keptM_zero (below_set3 bb1 (by omega))
set_option maxHeartbeats 4000000 in
set_option maxRecDepth 100000 in
theorem implMoneyTimes_any (va : Value) (a : MI) (k : Int) (w : World) (hla : a.2.2.length ≤ 1048576) (hk0 : -9223372036854775808 ≤ k) (hk1 : k ≤ 9223372036854775807) (ha : OwnM va a w) (ht : CurTab w) :
    Calls Tryz.prog 12 #[va, .int .i64 k] w (PostMb (timesM a k).1 (timesM a k).2 w) := by
  have Ha := Lib.hid ha
  obtain ⟨Aa, ca, rfl⟩ := ownM_form ha
  have OMa := Lib.hid (show ∀ W, Below w.heap.size w W → OwnM (.agg #[.string a.1, .bool a.2.1, .slice Aa a.2.2.length ca]) a W from fun W hb => OwnM.below Ha.out hb)
  have OIa := Lib.hid (show ∀ W, Below w.heap.size w W → OwnI (.slice Aa a.2.2.length ca) a.2.2 W from fun W hb => ownM_open (OMa.out W hb))
  have OSa := Lib.hid (show ∀ W, Below w.heap.size w W → OwnS (.agg #[.bool a.2.1, .slice Aa a.2.2.length ca]) a.2 W from fun W hb => OwnS.mk (OIa.out W hb))
  clear ha
  have HT := Lib.hid ht
  clear ht
  have bb0 : Below w.heap.size w ((w.alloc (.cells #[.string a.1, .bool a.2.1, .slice Aa a.2.2.length ca] 27)).alloc (.cells #[.string ⟨#[]⟩, .bool false, .slice none 0 0] 27)) := below_al (below_al (Below.refl _ _) _) _
  have ka := (box_new w #[.string a.1, .bool a.2.1, .slice Aa a.2.2.length ca] 27).below (below_al (Below.refl _ _) (.cells #[.string ⟨#[]⟩, .bool false, .slice none 0 0] 27))
  have ko := (box_new (w.alloc (.cells #[.string a.1, .bool a.2.1, .slice Aa a.2.2.length ca] 27)) #[.string ⟨#[]⟩, .bool false, .slice none 0 0] 27)
  rw [show (w.alloc (.cells #[.string a.1, .bool a.2.1, .slice Aa a.2.2.length ca] 27)).heap.size = w.heap.size + 1 by simp] at ko
  have HKO := Lib.hid (ko.lt (w.heap.size + 1) (by simp))
  go_enter Tryz.func12, Tryz.ntmps12
  have ka_c0 := ka.here.cell 0 _ rfl
  have ka_c1 := ka.here.cell 1 _ rfl
  have ka_c2 := ka.here.cell 2 _ rfl
  go_wp2_with fail
  clear ka_c0 ka_c1 ka_c2
  refine (implMoneyOk_any _ a _ hla (OMa.out _ bb0) (HT.out.below bb0)).mono ?_
  rintro e w1 ⟨rfl, b1⟩
  have bb1 := Below.next bb0 b1
  replace ka := ka.below b1
  replace ko := ko.below b1
  by_cases ok : okM a = true
  · rw [ok]
    obtain ⟨Q, hQ⟩ : ∃ Q, timesM a k = Q := ⟨_, rfl⟩
    have HV := Lib.hid hQ
    have EV := Lib.hid (show makeM a.1 (mulS a.2 (ofZ k)) = Q by rw [← hQ]; unfold timesM; rw [if_pos ok])
    clear hQ ok
    have hzS : (mulS a.2 (ofZ k)).2.length ≤ 1048576 := by unfold mulS; split; (have := ofZ_len (valS a.2 * valS (ofZ k)); omega); decide
    have hzt : (ofZ k).2.length ≤ 1048576 := by have := ofZ_len k; omega
    have hlko := ko.lt (w.heap.size + 1) (by simp)
    have hko := HKO.out
    have ka_c0 := ka.here.cell 0 _ rfl
    have ka_c1 := ka.here.cell 1 _ rfl
    have ka_c2 := ka.here.cell 2 _ rfl
    go_wp2_with fail
    have HC0 := Lib.hid (show Chg [w.heap.size + 1] w1 w1.drew from (Chg.refl _ _).drew1)
    have HCr := Lib.hid (show Chg [w.heap.size + 1] w1 w1 from Chg.refl _ _)
    have KL := Lib.hid (show ∀ W, Chg [w.heap.size + 1] w1 W → W.cell? ⟨w.heap.size, 0, none⟩ = some (.string a.1) ∧ W.cell? ⟨w.heap.size, 1, none⟩ = some (.bool a.2.1) ∧ W.cell? ⟨w.heap.size, 2, none⟩ = some (.slice Aa a.2.2.length ca) ∧ Hid (Chg [w.heap.size + 1] w1 W) from fun W hc => ⟨(ka.chg hc (fun i hi hm => by simp at hi hm; omega)).here.cell 0 _ rfl, (ka.chg hc (fun i hi hm => by simp at hi hm; omega)).here.cell 1 _ rfl, (ka.chg hc (fun i hi hm => by simp at hi hm; omega)).here.cell 2 _ rfl, Lib.hid hc⟩)
    have BBF := Lib.hid (show ∀ W, Chg [w.heap.size + 1] w1 W → Below w.heap.size w W from fun W hc => below_chg bb1 hc bb1.size (fun i hi => by simp at hi; omega))
    clear ka_c0 ka_c1 ka_c2
    go_region_held3 (fun W => W.cell? ⟨w.heap.size, 0, none⟩ = some (.string a.1) ∧ W.cell? ⟨w.heap.size, 1, none⟩ = some (.bool a.2.1) ∧ W.cell? ⟨w.heap.size, 2, none⟩ = some (.slice Aa a.2.2.length ca) ∧ Hid (Chg [w.heap.size + 1] w1 W))
      ((refine KL.out _ ?_; (first | exact HC4.out | exact HC3.out | exact HC2.out | exact HCr.out | exact HC0.out | exact HC4.out.drew1 | exact HC3.out.drew1 | exact HC2.out.drew1 | exact HCr.out.drew1 | exact HC0.out.drew1 | exact HC4.out.trans (Chg.of_below (below_al (Below.refl _ _) _)) | exact HC3.out.trans (Chg.of_below (below_al (Below.refl _ _) _)) | exact HC2.out.trans (Chg.of_below (below_al (Below.refl _ _) _)) | exact HCr.out.trans (Chg.of_below (below_al (Below.refl _ _) _)) | exact HC0.out.trans (Chg.of_below (below_al (Below.refl _ _) _)) | exact (Chg.setCell HC4.out (by simp) _) | exact (Chg.setCell (Chg.setCell HC4.out (by simp) _) (by simp) _) | exact (Chg.setCell (Chg.setCell (Chg.setCell HC4.out (by simp) _) (by simp) _) (by simp) _) | fail)))
      (first
        | (go_at_call 41; (have hBB := (‹_ ∧ _ ∧ _ ∧ Hid (Chg [w.heap.size + 1] w1 _)›).2.2.2); (with_reducible refine ((implIntOf_any k _ hk0 hk1).mono fun _ _ h => NewS.newV h).mono ?_); rintro e w2 ⟨uq, Sq, rfl, oq, lq, b2⟩; have HC2 := Lib.hid (hBB.out.trans (Chg.of_below b2)); (have ko_2 := At.below (by first | exact ko | exact At.below ko (below_al (Below.refl _ _) _) | exact At.below (At.below ko (below_al (Below.refl _ _) _)) (below_al (Below.refl _ _) _) | exact At.move ko (fun _ _ => rfl) (Nat.le_refl _)) b2); obtain ⟨Aq, cq, rfl⟩ := ownS_form oq.here; have HBZ2 := Lib.hid hBB.out.size; clear hBB)
        | (go_at_call 40; (have hBB := (‹_ ∧ _ ∧ _ ∧ Hid (Chg [w.heap.size + 1] w1 _)›).2.2.2); (with_reducible refine ((implIntMul_any _ _ a.2 (ofZ k) _ (by omega) hzt (OSa.out _ (BBF.out _ hBB.out)) (At.here (by first | exact oq | exact At.below oq (below_al (Below.refl _ _) _) | exact At.below (At.below oq (below_al (Below.refl _ _) _)) (below_al (Below.refl _ _) _) | exact At.move oq (fun _ _ => rfl) (Nat.le_refl _)))).mono fun _ _ h => NewS.newV h).mono ?_); rintro e w3 ⟨us, Ss, rfl, os, ls, b3⟩; have HC3 := Lib.hid (hBB.out.trans (Chg.of_below b3)); (have ko_3 := At.below (by first | exact ko_2 | exact At.below ko_2 (below_al (Below.refl _ _) _) | exact At.below (At.below ko_2 (below_al (Below.refl _ _) _)) (below_al (Below.refl _ _) _) | exact At.move ko_2 (fun _ _ => rfl) (Nat.le_refl _)) b3); (have oq_3 := At.below (by first | exact oq | exact At.below oq (below_al (Below.refl _ _) _) | exact At.below (At.below oq (below_al (Below.refl _ _) _)) (below_al (Below.refl _ _) _) | exact At.move oq (fun _ _ => rfl) (Nat.le_refl _)) b3); obtain ⟨As, cs, rfl⟩ := ownS_form os.here; have HBZ3 := Lib.hid hBB.out.size; clear hBB)
        | (go_at_call 39; (have hBB := (‹_ ∧ _ ∧ _ ∧ Hid (Chg [w.heap.size + 1] w1 _)›).2.2.2); (with_reducible refine ((validMoney_any a.1 _ (mulS a.2 (ofZ k)) _ _ hzS (by first | exact os | exact At.below os (below_al (Below.refl _ _) _) | exact At.below (At.below os (below_al (Below.refl _ _) _)) (below_al (Below.refl _ _) _) | exact At.move os (fun _ _ => rfl) (Nat.le_refl _)) (HT.out.below (BBF.out _ hBB.out))).mono fun _ _ h => keptM_eq EV.out h).mono ?_); rintro e w4 ⟨uf, Sf, rfl, of, sf, b4⟩; have HC4 := Lib.hid (hBB.out.trans (Chg.of_below b4)); (have ko_4 := At.below (by first | exact ko_3 | exact At.below ko_3 (below_al (Below.refl _ _) _) | exact At.below (At.below ko_3 (below_al (Below.refl _ _) _)) (below_al (Below.refl _ _) _) | exact At.move ko_3 (fun _ _ => rfl) (Nat.le_refl _)) b4); (have oq_4 := At.below (by first | exact oq_3 | exact At.below oq_3 (below_al (Below.refl _ _) _) | exact At.below (At.below oq_3 (below_al (Below.refl _ _) _)) (below_al (Below.refl _ _) _) | exact At.move oq_3 (fun _ _ => rfl) (Nat.le_refl _)) b4); (have os_4 := At.below (by first | exact os | exact At.below os (below_al (Below.refl _ _) _) | exact At.below (At.below os (below_al (Below.refl _ _) _)) (below_al (Below.refl _ _) _) | exact At.move os (fun _ _ => rfl) (Nat.le_refl _)) b4); obtain ⟨Af, cf, rfl⟩ := ownM_form of.here; have cz0 := ko_4.here.cell 0 _ rfl; have fz0 := Lib.frozen_of_heap ko_4.here 0; have cz1 := ko_4.here.cell 1 _ rfl; have fz1 := Lib.frozen_of_heap ko_4.here 1; have cz2 := ko_4.here.cell 2 _ rfl; have fz2 := Lib.frozen_of_heap ko_4.here 2; have HBZ4 := Lib.hid hBB.out.size; clear hBB))
    have bb4 := BBF.out _ HC4.out
    replace ka := ka.chg HC4.out (fun i hi hm => by simp at hi hm; omega)
    replace ko := ko_4
    have oq := oq_4
    have os := os_4
    have lf : Within Sf _ _ := fun i hi => ⟨(ls i (sf i hi)).1, of.lt i hi⟩
    have HW := Lib.hid (newMb_at (r := w.heap.size + 1) (b := Q.2) of lf (by have := HBZ3.out; omega) (by omega) bb4)
    clear of ko os
    go_wp2
    refine bodyPost_ret (v := .tuple #[.agg #[.string _, .bool _, .slice Af _ cf], .bool _]) (by simp [results, Tryz.results12, go_sem, cz0, cz1, cz2]; exact ⟨⟨rfl, rfl, rfl⟩, rfl⟩) rfl ?_
    rw [HV.out]
    exact HW.out
  · have ok' : okM a = false := by simpa using ok
    have HV := Lib.hid (show timesM a k = (zeroM, false) by unfold timesM; rw [if_neg ok])
    rw [ok']
    clear ok ok'
    have cz0 := ko.here.cell 0 _ rfl
    have fz0 := Lib.frozen_of_heap ko.here 0
    have cz1 := ko.here.cell 1 _ rfl
    have fz1 := Lib.frozen_of_heap ko.here 1
    have cz2 := ko.here.cell 2 _ rfl
    have fz2 := Lib.frozen_of_heap ko.here 2
    go_wp2
    refine bodyPost_ret (v := .tuple #[.agg #[.string ⟨#[]⟩, .bool false, .slice none 0 0], .bool false]) (by simp [results, Tryz.results12, go_sem, cz0, cz1, cz2]) rfl ?_
    rw [HV.out]
    first | exact newMb_zero _ bb1 | exact newMb_zero _ (below_set3 bb1 (by omega))
set_option maxHeartbeats 4000000 in
set_option maxRecDepth 100000 in
theorem implMoneyCmp_any (va vb : Value) (a b : MI) (w : World) (hla : a.2.2.length ≤ 1048576) (hlb : b.2.2.length ≤ 1048576) (ha : OwnM va a w) (hb : OwnM vb b w) (ht : CurTab w) :
    Calls Tryz.prog 11 #[va, vb] w (Postnb (cmpM a b).1 (cmpM a b).2 w) := by
  have Ha := Lib.hid ha
  obtain ⟨Aa, ca, rfl⟩ := ownM_form ha
  have OMa := Lib.hid (show ∀ W, Below w.heap.size w W → OwnM (.agg #[.string a.1, .bool a.2.1, .slice Aa a.2.2.length ca]) a W from fun W hb => OwnM.below Ha.out hb)
  have OIa := Lib.hid (show ∀ W, Below w.heap.size w W → OwnI (.slice Aa a.2.2.length ca) a.2.2 W from fun W hb => ownM_open (OMa.out W hb))
  have OSa := Lib.hid (show ∀ W, Below w.heap.size w W → OwnS (.agg #[.bool a.2.1, .slice Aa a.2.2.length ca]) a.2 W from fun W hb => OwnS.mk (OIa.out W hb))
  clear ha
  have Hb := Lib.hid hb
  obtain ⟨Ab, cb, rfl⟩ := ownM_form hb
  have OMb := Lib.hid (show ∀ W, Below w.heap.size w W → OwnM (.agg #[.string b.1, .bool b.2.1, .slice Ab b.2.2.length cb]) b W from fun W hb => OwnM.below Hb.out hb)
  have OIb := Lib.hid (show ∀ W, Below w.heap.size w W → OwnI (.slice Ab b.2.2.length cb) b.2.2 W from fun W hb => ownM_open (OMb.out W hb))
  have OSb := Lib.hid (show ∀ W, Below w.heap.size w W → OwnS (.agg #[.bool b.2.1, .slice Ab b.2.2.length cb]) b.2 W from fun W hb => OwnS.mk (OIb.out W hb))
  clear hb
  have HT := Lib.hid ht
  clear ht
  have bb0 : Below w.heap.size w ((w.alloc (.cells #[.string a.1, .bool a.2.1, .slice Aa a.2.2.length ca] 27)).alloc (.cells #[.string b.1, .bool b.2.1, .slice Ab b.2.2.length cb] 27)) := below_al (below_al (Below.refl _ _) _) _
  have ka := (box_new w #[.string a.1, .bool a.2.1, .slice Aa a.2.2.length ca] 27).below (below_al (Below.refl _ _) (.cells #[.string b.1, .bool b.2.1, .slice Ab b.2.2.length cb] 27))
  have kb := (box_new (w.alloc (.cells #[.string a.1, .bool a.2.1, .slice Aa a.2.2.length ca] 27)) #[.string b.1, .bool b.2.1, .slice Ab b.2.2.length cb] 27)
  rw [show (w.alloc (.cells #[.string a.1, .bool a.2.1, .slice Aa a.2.2.length ca] 27)).heap.size = w.heap.size + 1 by simp] at kb
  go_enter Tryz.func11, Tryz.ntmps11
  have ka_c0 := ka.here.cell 0 _ rfl
  have ka_c1 := ka.here.cell 1 _ rfl
  have ka_c2 := ka.here.cell 2 _ rfl
  go_wp2_with fail
  clear ka_c0 ka_c1 ka_c2
  refine (implMoneyOk_any _ a _ hla (OMa.out _ bb0) (HT.out.below bb0)).mono ?_
  rintro e w1 ⟨rfl, b1⟩
  have bb1 := Below.next bb0 b1
  replace ka := ka.below b1
  replace kb := kb.below b1
  by_cases oka : okM a = true
  · rw [oka]
    have HOa := Lib.hid oka
    clear oka
    have kb_c0 := kb.here.cell 0 _ rfl
    have kb_c1 := kb.here.cell 1 _ rfl
    have kb_c2 := kb.here.cell 2 _ rfl
    go_wp2_with fail
    clear kb_c0 kb_c1 kb_c2
    refine (implMoneyOk_any _ b _ hlb (OMb.out _ bb1) (HT.out.below bb1)).mono ?_
    rintro e w2 ⟨rfl, b2⟩
    have bb2 := Below.next bb1 b2
    replace ka := ka.below b2
    replace kb := kb.below b2
    by_cases okb : okM b = true
    · rw [okb]
      have HOb := Lib.hid okb
      clear okb
      by_cases he : a.1 = b.1
      · have HV := Lib.hid (show cmpM a b = (cmpS a.2 b.2, true) by unfold cmpM; rw [if_pos (by unfold bothM; rw [HOa.out, HOb.out, decide_eq_true he]; rfl)])
        have ka_c0 := ka.here.cell 0 _ rfl
        have ka_c1 := ka.here.cell 1 _ rfl
        have ka_c2 := ka.here.cell 2 _ rfl
        have kb_c0 := kb.here.cell 0 _ rfl
        have kb_c1 := kb.here.cell 1 _ rfl
        have kb_c2 := kb.here.cell 2 _ rfl
        rw [← he] at kb_c0
        clear he
        go_wp2_with fail
        clear ka_c0 ka_c1 ka_c2 kb_c0 kb_c1 kb_c2
        refine (implIntCmp_any _ _ a.2 b.2 _ (by omega) (by omega) (OSa.out _ bb2) (OSb.out _ bb2)).mono ?_
        rintro e w3 ⟨rfl, b3⟩
        have bb3 := Below.next bb2 b3
        replace ka := ka.below b3
        replace kb := kb.below b3
        go_wp2
        go_ret2
        rw [HV.out]
        exact ⟨rfl, bb3⟩
      · have HV := Lib.hid (show cmpM a b = (0, false) by unfold cmpM; rw [if_neg (by unfold bothM; rw [decide_eq_false he, Bool.and_false]; decide)])
        have hne0 := bytes_neC he
        have hne : (a.1.toList != b.1.toList) = true := by rw [bne, hne0]; rfl
        have ka_c0 := ka.here.cell 0 _ rfl
        have ka_c1 := ka.here.cell 1 _ rfl
        have ka_c2 := ka.here.cell 2 _ rfl
        have kb_c0 := kb.here.cell 0 _ rfl
        have kb_c1 := kb.here.cell 1 _ rfl
        have kb_c2 := kb.here.cell 2 _ rfl
        clear he ka kb
        go_wp2
        go_ret2
        rw [HV.out]
        exact ⟨rfl, bb2⟩
    · have okb' : okM b = false := by simpa using okb
      have HV := Lib.hid (show cmpM a b = (0, false) by unfold cmpM; rw [if_neg (by unfold bothM; rw [okb']; simp)])
      rw [okb']
      clear okb okb'
      go_wp2
      go_ret2
      rw [HV.out]
      exact ⟨rfl, bb2⟩
  · have oka' : okM a = false := by simpa using oka
    have HV := Lib.hid (show cmpM a b = (0, false) by unfold cmpM; rw [if_neg (by unfold bothM; rw [oka']; simp)])
    rw [oka']
    clear oka oka'
    go_wp2
    go_ret2
    rw [HV.out]
    exact ⟨rfl, bb1⟩
end Go.Proofs.YtcenmdiblbooeaaGreatDoor

namespace Go.Proofs.YtcenmdiblbooeaaGreatDoor
open Go.RowKit

set_option maxHeartbeats 4000000 in
set_option maxRecDepth 100000 in
theorem implRatMoney_any (cu : ByteArray) (vr : Value) (r : QI) (m : Int) (w : World) (hz : szQ r ≤ 1048576) (hr : OwnQ vr r w) (ht : CurTab w) (hsen : Sen w) :
    Calls Tryz.prog 25 #[.string cu, vr, .int .i64 m] w (PostMQb (rmM cu r m) (rmQ cu r m) (rmB cu r m) w) := by
  have HT := Lib.hid ht
  have HS := Lib.hid hsen
  clear ht hsen
  have Hr := Lib.hid hr
  obtain ⟨Ar, cr, Br, dr, rfl⟩ := ownQ_form hr
  have OQr := Lib.hid (show ∀ W, Below w.heap.size w W → OwnQ (.agg #[.bool r.1.1, .slice Ar r.1.2.length cr, .slice Br r.2.length dr]) r W from fun W hb => OwnQ.below Hr.out hb)
  clear hr
  have bb0 : Below w.heap.size w (((w.alloc (.cells #[.bool r.1.1, .slice Ar r.1.2.length cr, .slice Br r.2.length dr] 51)).alloc (.cells #[.string ⟨#[]⟩, .bool false, .slice none 0 0] 27)).alloc (.cells #[.bool false, .slice none 0 0, .slice none 0 0] 51)) := below_al (below_al (below_al (Below.refl _ _) _) _) _
  have kr := (box_new w #[.bool r.1.1, .slice Ar r.1.2.length cr, .slice Br r.2.length dr] 51).below (below_al (below_al (Below.refl _ _) (.cells #[.string ⟨#[]⟩, .bool false, .slice none 0 0] 27)) (.cells #[.bool false, .slice none 0 0, .slice none 0 0] 51))
  have ko := (box_new (w.alloc (.cells #[.bool r.1.1, .slice Ar r.1.2.length cr, .slice Br r.2.length dr] 51)) #[.string ⟨#[]⟩, .bool false, .slice none 0 0] 27).below (below_al (Below.refl _ _) (.cells #[.bool false, .slice none 0 0, .slice none 0 0] 51))
  rw [show (w.alloc (.cells #[.bool r.1.1, .slice Ar r.1.2.length cr, .slice Br r.2.length dr] 51)).heap.size = w.heap.size + 1 by simp] at ko
  have kp := (box_new ((w.alloc (.cells #[.bool r.1.1, .slice Ar r.1.2.length cr, .slice Br r.2.length dr] 51)).alloc (.cells #[.string ⟨#[]⟩, .bool false, .slice none 0 0] 27)) #[.bool false, .slice none 0 0, .slice none 0 0] 51)
  rw [show ((w.alloc (.cells #[.bool r.1.1, .slice Ar r.1.2.length cr, .slice Br r.2.length dr] 51)).alloc (.cells #[.string ⟨#[]⟩, .bool false, .slice none 0 0] 27)).heap.size = w.heap.size + 1 + 1 by simp] at kp
  have HKO := Lib.hid (ko.lt (w.heap.size + 1) (by simp))
  have HKP := Lib.hid (kp.lt (w.heap.size + 1 + 1) (by simp))
  have hzX : (restS r m).2.length ≤ 1048576 := restS_len r m
  obtain ⟨X, hX⟩ : ∃ X, restS r m = X := ⟨_, rfl⟩
  obtain ⟨Y, hY⟩ : ∃ Y, restQ r m = Y := ⟨_, rfl⟩
  obtain ⟨rb, hrb⟩ : ∃ b, restB r m = b := ⟨_, rfl⟩
  obtain ⟨⟨Q, qb⟩, hQ⟩ : ∃ Q, makeM cu X = Q := ⟨_, rfl⟩
  have EX := Lib.hid hX
  have EY := Lib.hid hY
  have EQ := Lib.hid hQ
  have EG := Lib.hid (show rb = true → qb = true → rmM cu r m = Q ∧ rmQ cu r m = Y ∧ rmB cu r m = true from fun h1 h2 => by have h := rm_good (cu := cu) (r := r) (m := m) (by rw [hrb]; exact h1) (by rw [hX, hQ]; exact h2); rw [hX, hQ, hY] at h; exact h)
  have EB := Lib.hid (show rb = false ∨ qb = false → rmM cu r m = zeroM ∧ rmQ cu r m = zeroQ ∧ rmB cu r m = false from fun h => rm_bad (by rw [hrb, hX, hQ]; exact h))
  have ER := Lib.hid hrb
  rw [hX] at hzX
  clear hX hY hrb hQ
  generalize rmM cu r m = RM at *
  generalize rmQ cu r m = RQ at *
  generalize rmB cu r m = RB at *
  go_enter Tryz.func25, Tryz.ntmps25
  have kr_c0 := kr.here.cell 0 _ rfl
  have kr_c1 := kr.here.cell 1 _ rfl
  have kr_c2 := kr.here.cell 2 _ rfl
  go_wp2_with fail
  clear kr_c0 kr_c1 kr_c2
  refine ((implRatRest_any _ r m _ hz (OQr.out _ bb0) (HS.out.below bb0)).mono fun _ _ h => postSQb_isM EX.out EY.out ER.out h).mono ?_
  rintro e w1 ⟨ux, uy, Sx, Sy, rfl, ox, oy, hap, lx, ly, b1⟩
  obtain ⟨Ax, cx, rfl⟩ := ownS_form ox.here
  obtain ⟨Ay, cy, By, dy, rfl⟩ := ownQ_form oy.here
  have bb1 := Below.next bb0 b1
  replace kr := kr.below b1
  replace ko := ko.below b1
  replace kp := kp.below b1
  have kx := box_new (w1) #[.bool X.1, .slice Ax X.2.length cx] 25
  have alx := below_al (Below.refl (w1).heap.size (w1)) (.cells #[.bool X.1, .slice Ax X.2.length cx] 25)
  have bbx := Below.next bb1 alx
  replace kr := kr.below alx
  replace ko := ko.below alx
  replace kp := kp.below alx
  replace ox := ox.below alx
  replace oy := oy.below alx
  have ky := box_new ((w1.alloc (.cells #[.bool X.1, .slice Ax X.2.length cx] 25))) #[.bool Y.1.1, .slice Ay Y.1.2.length cy, .slice By Y.2.length dy] 51
  have aly := below_al (Below.refl ((w1.alloc (.cells #[.bool X.1, .slice Ax X.2.length cx] 25))).heap.size ((w1.alloc (.cells #[.bool X.1, .slice Ax X.2.length cx] 25)))) (.cells #[.bool Y.1.1, .slice Ay Y.1.2.length cy, .slice By Y.2.length dy] 51)
  have bby := Below.next bbx aly
  replace kr := kr.below aly
  replace ko := ko.below aly
  replace kp := kp.below aly
  replace ox := ox.below aly
  replace oy := oy.below aly
  replace kx := kx.below aly
  have kx_c0 := kx.here.cell 0 _ rfl
  have kx_c1 := kx.here.cell 1 _ rfl
  go_wp2_with fail
  clear kx_c0 kx_c1
  refine ((validMoney_any cu _ X _ _ hzX ox (HT.out.below bby)).mono fun _ _ h => keptM_eq EQ.out h).mono ?_
  rintro e w2 ⟨um, Sm, rfl, om, sm, b2⟩
  obtain ⟨Am, cm, rfl⟩ := ownM_form om.here
  have bb2 := Below.next bby b2
  replace kr := kr.below b2
  replace ko := ko.below b2
  replace kp := kp.below b2
  replace ox := ox.below b2
  replace oy := oy.below b2
  replace kx := kx.below b2
  replace ky := ky.below b2
  have km := box_new (w2) #[.string Q.1, .bool Q.2.1, .slice Am Q.2.2.length cm] 27
  have alm := below_al (Below.refl (w2).heap.size (w2)) (.cells #[.string Q.1, .bool Q.2.1, .slice Am Q.2.2.length cm] 27)
  have bbm := Below.next bb2 alm
  replace kr := kr.below alm
  replace ko := ko.below alm
  replace kp := kp.below alm
  replace ox := ox.below alm
  replace oy := oy.below alm
  replace kx := kx.below alm
  replace ky := ky.below alm
  replace om := om.below alm
  cases rb with
  | false =>
    have HV := Lib.hid (EB.out (.inl rfl))
    have cko0 := ko.here.cell 0 _ rfl
    have fko0 := Lib.frozen_of_heap ko.here 0
    have cko1 := ko.here.cell 1 _ rfl
    have fko1 := Lib.frozen_of_heap ko.here 1
    have cko2 := ko.here.cell 2 _ rfl
    have fko2 := Lib.frozen_of_heap ko.here 2
    have ckp0 := kp.here.cell 0 _ rfl
    have fkp0 := Lib.frozen_of_heap kp.here 0
    have ckp1 := kp.here.cell 1 _ rfl
    have fkp1 := Lib.frozen_of_heap kp.here 1
    have ckp2 := kp.here.cell 2 _ rfl
    have fkp2 := Lib.frozen_of_heap kp.here 2
    clear ox oy om ko kp kr kx ky km lx ly sm hap
    go_wp2
    refine bodyPost_ret (v := .tuple #[.agg #[.string ⟨#[]⟩, .bool false, .slice none 0 0], .agg #[.bool false, .slice none 0 0, .slice none 0 0], .bool false]) (by simp [results, Tryz.results25, go_sem, cko0, cko1, cko2, ckp0, ckp1, ckp2]) rfl ?_
    rw [HV.out.1, HV.out.2.1, HV.out.2.2]
    have hle1 : w.heap.size ≤ w.heap.size + 1 := by omega
    have hle2 : w.heap.size ≤ w.heap.size + 1 + 1 := by omega
    first | with_reducible exact newMQb_zero (below_set3 (below_set3 bbm hle1) hle2) | with_reducible exact newMQb_zero bbm
  | true =>
    cases qb with
    | false =>
      have HV := Lib.hid (EB.out (.inr rfl))
      have cko0 := ko.here.cell 0 _ rfl
      have fko0 := Lib.frozen_of_heap ko.here 0
      have cko1 := ko.here.cell 1 _ rfl
      have fko1 := Lib.frozen_of_heap ko.here 1
      have cko2 := ko.here.cell 2 _ rfl
      have fko2 := Lib.frozen_of_heap ko.here 2
      have ckp0 := kp.here.cell 0 _ rfl
      have fkp0 := Lib.frozen_of_heap kp.here 0
      have ckp1 := kp.here.cell 1 _ rfl
      have fkp1 := Lib.frozen_of_heap kp.here 1
      have ckp2 := kp.here.cell 2 _ rfl
      have fkp2 := Lib.frozen_of_heap kp.here 2
      clear ox oy om ko kp kr kx ky km lx ly sm hap
      go_wp2
      refine bodyPost_ret (v := .tuple #[.agg #[.string ⟨#[]⟩, .bool false, .slice none 0 0], .agg #[.bool false, .slice none 0 0, .slice none 0 0], .bool false]) (by simp [results, Tryz.results25, go_sem, cko0, cko1, cko2, ckp0, ckp1, ckp2]) rfl ?_
      rw [HV.out.1, HV.out.2.1, HV.out.2.2]
      have hle1 : w.heap.size ≤ w.heap.size + 1 := by omega
      have hle2 : w.heap.size ≤ w.heap.size + 1 + 1 := by omega
      first | with_reducible exact newMQb_zero (below_set3 (below_set3 bbm hle1) hle2) | with_reducible exact newMQb_zero bbm
    | true =>
      have HV := Lib.hid (EG.out rfl rfl)
      have z1 := b1.size
      have z2 := b2.size
      have zx := alx.size
      have zy := aly.size
      have zm := alm.size
      have e1 : (w1.alloc (.cells #[.bool X.1, .slice Ax X.2.length cx] 25)).heap.size = w1.heap.size + 1 := by simp
      have e2 : ((w1.alloc (.cells #[.bool X.1, .slice Ax X.2.length cx] 25)).alloc (.cells #[.bool Y.1.1, .slice Ay Y.1.2.length cy, .slice By Y.2.length dy] 51)).heap.size = w1.heap.size + 1 + 1 := by simp
      have hko := HKO.out
      have hkp := HKP.out
      have HW := Lib.hid (newMQb_at (b := true) (r := w.heap.size + 1) (p := w.heap.size + 1 + 1) om oy (B := w.heap.size + 3) (C := w.heap.size + 3) (fun i hi => ⟨by have := (lx i (sm i hi)).1; simp at this; omega, om.lt i hi⟩) (fun i hi => ⟨by have := (ly i hi).1; simp at this; omega, oy.lt i hi⟩) (fun i hi => hap i (sm i hi)) (by omega) (by omega) (by omega) (by omega) (by omega) bbm)
      have hw1 : w.heap.size + 3 ≤ w1.heap.size := by simp at z1; omega
      have hw2 : w1.heap.size + 2 ≤ w2.heap.size := by rw [e2] at z2; omega
      have hn_w1_1 : ¬ w1.heap.size = w.heap.size + 1 := by omega
      have hn_w1_1' : ¬ w.heap.size + 1 = w1.heap.size := by omega
      have hn_w1_2 : ¬ w1.heap.size = w.heap.size + 1 + 1 := by omega
      have hn_w1_2' : ¬ w.heap.size + 1 + 1 = w1.heap.size := by omega
      have hn_w2_1 : ¬ w2.heap.size = w.heap.size + 1 := by omega
      have hn_w2_1' : ¬ w.heap.size + 1 = w2.heap.size := by omega
      have hn_w2_2 : ¬ w2.heap.size = w.heap.size + 1 + 1 := by omega
      have hn_w2_2' : ¬ w.heap.size + 1 + 1 = w2.heap.size := by omega
      have hn_y_1 : ¬ w1.heap.size + 1 = w.heap.size + 1 := by omega
      have hn_y_1' : ¬ w.heap.size + 1 = w1.heap.size + 1 := by omega
      have hn_y_2 : ¬ w1.heap.size + 1 = w.heap.size + 1 + 1 := by omega
      have hn_y_2' : ¬ w.heap.size + 1 + 1 = w1.heap.size + 1 := by omega
      rw [e1] at ky
      have cko0 := ko.here.cell 0 _ rfl
      have fko0 := Lib.frozen_of_heap ko.here 0
      have cko1 := ko.here.cell 1 _ rfl
      have fko1 := Lib.frozen_of_heap ko.here 1
      have cko2 := ko.here.cell 2 _ rfl
      have fko2 := Lib.frozen_of_heap ko.here 2
      have ckp0 := kp.here.cell 0 _ rfl
      have fkp0 := Lib.frozen_of_heap kp.here 0
      have ckp1 := kp.here.cell 1 _ rfl
      have fkp1 := Lib.frozen_of_heap kp.here 1
      have ckp2 := kp.here.cell 2 _ rfl
      have fkp2 := Lib.frozen_of_heap kp.here 2
      have ckm0 := km.here.cell 0 _ rfl
      have ckm1 := km.here.cell 1 _ rfl
      have ckm2 := km.here.cell 2 _ rfl
      have cky0 := ky.here.cell 0 _ rfl
      have cky1 := ky.here.cell 1 _ rfl
      have cky2 := ky.here.cell 2 _ rfl
      clear ox oy om ko kp kr kx ky km lx ly sm hap z1 z2 zx zy zm e1 e2 hko hkp hw1 hw2
      go_wp2_with fail
      go_region
      all_goals (go_wp2; refine bodyPost_ret (v := .tuple #[.agg #[.string Q.1, .bool Q.2.1, .slice Am Q.2.2.length cm], .agg #[.bool Y.1.1, .slice Ay Y.1.2.length cy, .slice By Y.2.length dy], .bool true]) (by simp [results, Tryz.results25, go_sem, cko0, cko1, cko2, ckp0, ckp1, ckp2]) rfl ?_)
      all_goals (rw [HV.out.1, HV.out.2.1, HV.out.2.2]; refine HW.out _ ?_; repeat (first | with_reducible exact Chg.refl _ _ | with_reducible refine Chg.drew1 ?_ | with_reducible refine Chg.setCell ?_ (by simp) _))
end Go.Proofs.YtcenmdiblbooeaaGreatDoor
