/-
  JA8
-/
import Derived.Deep.RegionHeld3
import Derived.Shelf.Abstract
import Derived.Deep.DeepCutAuto
import Derived.Laws.OwnMore
import Derived.Test.YtofehcpapdlcnabGreatDoorJE7
namespace Go.Proofs.YtofehcpapdlcnabGreatDoor
open Go.RowKit

theorem nat_lt50 {X : Nat} (h : (limbs X).length ≤ 19) : ((X + X : Nat) : Int) < bp 50 ∧ ((X + 1 : Nat) : Int) < bp 50 := by
  have h1 := nval_lt (limbs X) (limbs_digN X)
  rw [limbs_val] at h1
  have h2 : bp (limbs X).length ≤ bp 19 := bp_mono h
  have h3 : bp 20 ≤ bp 50 := bp_mono (by omega)
  have h4 : bp 20 = 1000000000 * bp 19 := rfl
  have := bp_pos 19
  omega
theorem cmpN_limbs {X Y : Nat} (hx : (limbs X).length ≤ 50) (hy : (limbs Y).length ≤ 50) : cmpN (limbs X) (limbs Y) = cmpI X Y := by
  unfold cmpN
  rw [if_pos ⟨limbs_okL _ hx, limbs_okL _ hy⟩, limbs_val, limbs_val]
theorem twoRows_eq {a b c d : List Int} {w w' : World} {e : Ending} (h : TwoRows a b w e w') (h1 : a = c) (h2 : b = d) : TwoRows c d w e w' := by subst h1 h2; exact h
theorem newI_eq {a b : List Int} {w w' : World} {e : Ending} (h : NewInts a w e w') (h1 : a = b) : NewInts b w e w' := by subst h1; exact h
set_option maxHeartbeats 2000000 in
set_option maxRecDepth 100000 in
theorem overHalf_any (Aq Ar Ad : Option Addr) (cq cr cd : Nat) (neg : Bool) (Q R D : Nat) (w : World) (_ : (limbs Q).length ≤ 50) (hrl : (limbs R).length ≤ 18) (hdl : (limbs D).length ≤ 18) (_ : OwnI (.slice Aq (limbs Q).length cq) (limbs Q) w) (or_ : OwnI (.slice Ar (limbs R).length cr) (limbs R) w) (od : OwnI (.slice Ad (limbs D).length cd) (limbs D) w) :
    Calls Tryz.prog 173 #[.agg #[.bool neg, .slice Aq (limbs Q).length cq, .slice Ar (limbs R).length cr, .slice Ad (limbs D).length cd]] w (Postn (cmpI ((R : Int) + R + 0) D) w) := by
  have Hr := Lib.hid (show ∀ W, Below w.heap.size w W → OwnI (.slice Ar (limbs R).length cr) (limbs R) W from fun W hb => OwnI.belowI or_ hb)
  have Hd := Lib.hid (show ∀ W, Below w.heap.size w W → OwnI (.slice Ad (limbs D).length cd) (limbs D) W from fun W hb => OwnI.belowI od hb)
  clear or_ od
  have bb0 : Below w.heap.size w (w.alloc (.cells #[.bool neg, .slice Aq (limbs Q).length cq, .slice Ar (limbs R).length cr, .slice Ad (limbs D).length cd] 166)) := below_al (Below.refl _ _) _
  have ks := (box_new w #[.bool neg, .slice Aq (limbs Q).length cq, .slice Ar (limbs R).length cr, .slice Ad (limbs D).length cd] 166)
  obtain ⟨z, hz⟩ : ∃ z, cmpI ((R : Int) + R + 0) D = z := ⟨_, rfl⟩
  have EA := Lib.hid (addN_small (nat_lt50 (X := R) (by omega)).1)
  have h2l : (limbs (R + R)).length ≤ 50 := limbs_length_le _ 50 (nat_lt50 (X := R) (by omega)).1
  have EZ := Lib.hid (show cmpN (limbs (R + R)) (limbs D) = z by rw [cmpN_limbs h2l (by omega), ← hz, Int.natCast_add, Int.add_zero])
  rw [hz]
  clear hz
  have HCM := Lib.hid (show ∀ (u v : Value) (W : World), OwnI u (limbs (R + R)) W → OwnI v (limbs D) W → Calls Tryz.prog 127 #[u, v] W (Postn z W) from fun u v W h1 h3 => (implNatCmp_any u v (limbs (R + R)) (limbs D) 0 _ 0 _ W (by omega) (by omega) (Nat.le_refl _) (Nat.le_refl _) h1.row h3.row).mono fun _ _ h => postn_eq EZ.out h)
  obtain ⟨W0, hW0⟩ : ∃ W0, W0 = (w.alloc (.cells #[.bool neg, .slice Aq (limbs Q).length cq, .slice Ar (limbs R).length cr, .slice Ad (limbs D).length cd] 166)) := ⟨_, rfl⟩
  rw [← hW0] at bb0 ks
  have HW0 := Lib.hid hW0
  clear hW0
  go_enter Tryz.func173, Tryz.ntmps173
  have ks_c0 := ks.here.cell 0 _ rfl
  have ks_c1 := ks.here.cell 1 _ rfl
  have ks_c2 := ks.here.cell 2 _ rfl
  have ks_c3 := ks.here.cell 3 _ rfl
  go_wp2_with fail
  rw [← HW0.out]
  have HC0 := Lib.hid (show Chg [] W0 W0.drew from (Chg.refl _ _).drew1)
  have HCr := Lib.hid (show Chg [] W0 W0 from Chg.refl _ _)
  have KL := Lib.hid (show ∀ W, Chg [] W0 W → W.cell? ⟨w.heap.size, 0, none⟩ = some (.bool neg) ∧ W.cell? ⟨w.heap.size, 1, none⟩ = some (.slice Aq (limbs Q).length cq) ∧ W.cell? ⟨w.heap.size, 2, none⟩ = some (.slice Ar (limbs R).length cr) ∧ W.cell? ⟨w.heap.size, 3, none⟩ = some (.slice Ad (limbs D).length cd) ∧ Hid (Chg [] W0 W) from fun W hc => ⟨(ks.chg hc (fun i hi hm => by simp at hm)).here.cell 0 _ rfl, (ks.chg hc (fun i hi hm => by simp at hm)).here.cell 1 _ rfl, (ks.chg hc (fun i hi hm => by simp at hm)).here.cell 2 _ rfl, (ks.chg hc (fun i hi hm => by simp at hm)).here.cell 3 _ rfl, Lib.hid hc⟩)
  have BBF := Lib.hid (show ∀ W, Chg [] W0 W → Below w.heap.size w W from fun W hc => below_chg bb0 hc bb0.size (fun i hi => by simp at hi))
  clear ks_c0 ks_c1 ks_c2 ks_c3
  go_region_held3 (fun W => W.cell? ⟨w.heap.size, 0, none⟩ = some (.bool neg) ∧ W.cell? ⟨w.heap.size, 1, none⟩ = some (.slice Aq (limbs Q).length cq) ∧ W.cell? ⟨w.heap.size, 2, none⟩ = some (.slice Ar (limbs R).length cr) ∧ W.cell? ⟨w.heap.size, 3, none⟩ = some (.slice Ad (limbs D).length cd) ∧ Hid (Chg [] W0 W))
    ((refine KL.out _ ?_; (first | exact HC2.out | exact HC1.out | exact HCr.out | exact HC0.out | exact HC2.out.drew1 | exact HC1.out.drew1 | exact HCr.out.drew1 | exact HC0.out.drew1 | exact HC2.out.trans (Chg.of_below (below_al (Below.refl _ _) _)) | exact HC1.out.trans (Chg.of_below (below_al (Below.refl _ _) _)) | exact HCr.out.trans (Chg.of_below (below_al (Below.refl _ _) _)) | exact HC0.out.trans (Chg.of_below (below_al (Below.refl _ _) _)) | fail)))
    (first
      | (go_at_call 163; (have hBB := (‹_ ∧ _ ∧ _ ∧ _ ∧ Hid (Chg [] W0 _)›).2.2.2.2); (with_reducible refine ((implNatAdd_any _ _ (limbs R) (limbs R) 0 _ 0 _ _ (by omega) (by omega) (Nat.le_refl _) (Nat.le_refl _) (OwnI.row (Hr.out _ (BBF.out _ hBB.out))) (OwnI.row (Hr.out _ (BBF.out _ hBB.out)))).mono fun _ _ h => (newI_eq h EA.out).newV).mono ?_); rintro e w1 ⟨ua, Sa, rfl, oa, la, b1⟩; have HC1 := Lib.hid (hBB.out.trans (Chg.of_below b1)); obtain ⟨Ea, ea, rfl⟩ := own_len oa.here; have HBZ1 := Lib.hid hBB.out.size; clear hBB)
      | (go_at_call 127; (have hBB := (‹_ ∧ _ ∧ _ ∧ _ ∧ Hid (Chg [] W0 _)›).2.2.2.2); (with_reducible refine (HCM.out _ _ _ (At.here (by first | exact oa | exact At.below oa (below_al (Below.refl _ _) _) | exact At.below (At.below oa (below_al (Below.refl _ _) _)) (below_al (Below.refl _ _) _) | exact At.move oa (fun _ _ => rfl) (Nat.le_refl _))) (Hd.out _ (BBF.out _ hBB.out))).mono ?_); rintro e w2 ⟨rfl, b2⟩; have HC2 := Lib.hid (hBB.out.trans (Chg.of_below b2)); (have oa_2 := At.below (by first | exact oa | exact At.below oa (below_al (Below.refl _ _) _) | exact At.below (At.below oa (below_al (Below.refl _ _) _)) (below_al (Below.refl _ _) _) | exact At.move oa (fun _ _ => rfl) (Nat.le_refl _)) b2); have HBZ2 := Lib.hid hBB.out.size; clear hBB))
  have bb2 := BBF.out _ HC2.out
  replace ks := ks.chg HC2.out (fun i hi hm => by simp at hm)
  have oa := oa_2
  go_wp2
  go_ret
  exact ⟨rfl, bb2⟩
set_option maxHeartbeats 1000000 in
set_option maxRecDepth 100000 in
theorem farther_0 (Aq Ar Ad : Option Addr) (cq cr cd : Nat) (neg : Bool) (Q R D : Nat) (w : World) (_ : (limbs Q).length ≤ 50) (_ : (limbs R).length ≤ 18) (_ : (limbs D).length ≤ 18) (_ : OwnI (.slice Aq (limbs Q).length cq) (limbs Q) w) (_ : OwnI (.slice Ar (limbs R).length cr) (limbs R) w) (_ : OwnI (.slice Ad (limbs D).length cd) (limbs D) w) :
    Calls Tryz.prog 168 #[.agg #[.bool neg, .slice Aq (limbs Q).length cq, .slice Ar (limbs R).length cr, .slice Ad (limbs D).length cd]] w (Postb (awayB neg Q R D 0) w) := by
  have bb0 : Below w.heap.size w (w.alloc (.cells #[.bool neg, .slice Aq (limbs Q).length cq, .slice Ar (limbs R).length cr, .slice Ad (limbs D).length cd] 166)) := below_al (Below.refl _ _) _
  have ks := (box_new w #[.bool neg, .slice Aq (limbs Q).length cq, .slice Ar (limbs R).length cr, .slice Ad (limbs D).length cd] 166)
  go_enter Tryz.func168, Tryz.ntmps168
  go_wp2
  go_ret
  exact ⟨ret_bool (rfl), bb0⟩
set_option maxHeartbeats 1000000 in
set_option maxRecDepth 100000 in
theorem farther_1 (Aq Ar Ad : Option Addr) (cq cr cd : Nat) (neg : Bool) (Q R D : Nat) (w : World) (_ : (limbs Q).length ≤ 50) (_ : (limbs R).length ≤ 18) (_ : (limbs D).length ≤ 18) (_ : OwnI (.slice Aq (limbs Q).length cq) (limbs Q) w) (_ : OwnI (.slice Ar (limbs R).length cr) (limbs R) w) (_ : OwnI (.slice Ad (limbs D).length cd) (limbs D) w) :
    Calls Tryz.prog 169 #[.agg #[.bool neg, .slice Aq (limbs Q).length cq, .slice Ar (limbs R).length cr, .slice Ad (limbs D).length cd]] w (Postb (awayB neg Q R D 1) w) := by
  have bb0 : Below w.heap.size w (w.alloc (.cells #[.bool neg, .slice Aq (limbs Q).length cq, .slice Ar (limbs R).length cr, .slice Ad (limbs D).length cd] 166)) := below_al (Below.refl _ _) _
  have ks := (box_new w #[.bool neg, .slice Aq (limbs Q).length cq, .slice Ar (limbs R).length cr, .slice Ad (limbs D).length cd] 166)
  go_enter Tryz.func169, Tryz.ntmps169
  go_wp2
  go_ret
  exact ⟨ret_bool (rfl), bb0⟩
set_option maxHeartbeats 1000000 in
set_option maxRecDepth 100000 in
theorem farther_2 (Aq Ar Ad : Option Addr) (cq cr cd : Nat) (neg : Bool) (Q R D : Nat) (w : World) (_ : (limbs Q).length ≤ 50) (_ : (limbs R).length ≤ 18) (_ : (limbs D).length ≤ 18) (_ : OwnI (.slice Aq (limbs Q).length cq) (limbs Q) w) (_ : OwnI (.slice Ar (limbs R).length cr) (limbs R) w) (_ : OwnI (.slice Ad (limbs D).length cd) (limbs D) w) :
    Calls Tryz.prog 170 #[.agg #[.bool neg, .slice Aq (limbs Q).length cq, .slice Ar (limbs R).length cr, .slice Ad (limbs D).length cd]] w (Postb (awayB neg Q R D 2) w) := by
  have bb0 : Below w.heap.size w (w.alloc (.cells #[.bool neg, .slice Aq (limbs Q).length cq, .slice Ar (limbs R).length cr, .slice Ad (limbs D).length cd] 166)) := below_al (Below.refl _ _) _
  have ks := (box_new w #[.bool neg, .slice Aq (limbs Q).length cq, .slice Ar (limbs R).length cr, .slice Ad (limbs D).length cd] 166)
  go_enter Tryz.func170, Tryz.ntmps170
  have ks_c0 := ks.here.cell 0 _ rfl
  have ks_c1 := ks.here.cell 1 _ rfl
  have ks_c2 := ks.here.cell 2 _ rfl
  have ks_c3 := ks.here.cell 3 _ rfl
  go_wp2
  go_ret
  exact ⟨ret_bool (rfl), bb0⟩
set_option maxHeartbeats 1000000 in
set_option maxRecDepth 100000 in
theorem farther_3 (Aq Ar Ad : Option Addr) (cq cr cd : Nat) (neg : Bool) (Q R D : Nat) (w : World) (_ : (limbs Q).length ≤ 50) (_ : (limbs R).length ≤ 18) (_ : (limbs D).length ≤ 18) (_ : OwnI (.slice Aq (limbs Q).length cq) (limbs Q) w) (_ : OwnI (.slice Ar (limbs R).length cr) (limbs R) w) (_ : OwnI (.slice Ad (limbs D).length cd) (limbs D) w) :
    Calls Tryz.prog 171 #[.agg #[.bool neg, .slice Aq (limbs Q).length cq, .slice Ar (limbs R).length cr, .slice Ad (limbs D).length cd]] w (Postb (awayB neg Q R D 3) w) := by
  have bb0 : Below w.heap.size w (w.alloc (.cells #[.bool neg, .slice Aq (limbs Q).length cq, .slice Ar (limbs R).length cr, .slice Ad (limbs D).length cd] 166)) := below_al (Below.refl _ _) _
  have ks := (box_new w #[.bool neg, .slice Aq (limbs Q).length cq, .slice Ar (limbs R).length cr, .slice Ad (limbs D).length cd] 166)
  go_enter Tryz.func171, Tryz.ntmps171
  have ks_c0 := ks.here.cell 0 _ rfl
  have ks_c1 := ks.here.cell 1 _ rfl
  have ks_c2 := ks.here.cell 2 _ rfl
  have ks_c3 := ks.here.cell 3 _ rfl
  go_wp2
  go_ret
  exact ⟨ret_bool (rfl), bb0⟩
set_option maxHeartbeats 1000000 in
set_option maxRecDepth 100000 in
theorem farther_4 (Aq Ar Ad : Option Addr) (cq cr cd : Nat) (neg : Bool) (Q R D : Nat) (w : World) (hql : (limbs Q).length ≤ 50) (hrl : (limbs R).length ≤ 18) (hdl : (limbs D).length ≤ 18) (oq : OwnI (.slice Aq (limbs Q).length cq) (limbs Q) w) (or_ : OwnI (.slice Ar (limbs R).length cr) (limbs R) w) (od : OwnI (.slice Ad (limbs D).length cd) (limbs D) w) :
    Calls Tryz.prog 172 #[.agg #[.bool neg, .slice Aq (limbs Q).length cq, .slice Ar (limbs R).length cr, .slice Ad (limbs D).length cd]] w (Postb (awayB neg Q R D 4) w) := by
  obtain ⟨c, hc⟩ : ∃ c, cmpI ((R : Int) + R + 0) D = c := ⟨_, rfl⟩
  have HC := Lib.hid hc
  have HA := Lib.hid (away_cmp neg Q R D hc)
  have h3 : c = -1 ∨ c = 0 ∨ c = 1 := by rw [← hc]; exact cmp_three _ _
  have Hq := Lib.hid (show ∀ W, Below w.heap.size w W → OwnI (.slice Aq (limbs Q).length cq) (limbs Q) W from fun W hb => OwnI.belowI oq hb)
  have Hr := Lib.hid (show ∀ W, Below w.heap.size w W → OwnI (.slice Ar (limbs R).length cr) (limbs R) W from fun W hb => OwnI.belowI or_ hb)
  have Hd := Lib.hid (show ∀ W, Below w.heap.size w W → OwnI (.slice Ad (limbs D).length cd) (limbs D) W from fun W hb => OwnI.belowI od hb)
  clear hc oq or_ od
  have bb0 : Below w.heap.size w (w.alloc (.cells #[.bool neg, .slice Aq (limbs Q).length cq, .slice Ar (limbs R).length cr, .slice Ad (limbs D).length cd] 166)) := below_al (Below.refl _ _) _
  have ks := (box_new w #[.bool neg, .slice Aq (limbs Q).length cq, .slice Ar (limbs R).length cr, .slice Ad (limbs D).length cd] 166)
  go_enter Tryz.func172, Tryz.ntmps172
  have ks_c0 := ks.here.cell 0 _ rfl
  have ks_c1 := ks.here.cell 1 _ rfl
  have ks_c2 := ks.here.cell 2 _ rfl
  have ks_c3 := ks.here.cell 3 _ rfl
  go_wp2_with fail
  clear ks_c0 ks_c1 ks_c2 ks_c3
  refine ((overHalf_any Aq Ar Ad cq cr cd neg Q R D _ hql hrl hdl (Hq.out _ bb0) (Hr.out _ bb0) (Hd.out _ bb0)).mono fun _ _ h => postn_eq HC.out h).mono ?_
  rintro e w1 ⟨rfl, b1⟩
  have bb1 := Below.next bb0 b1
  replace ks := ks.below b1
  clear h3 ks
  go_wp2
  go_ret
  exact ⟨ret_bool (HA.out.1.symm), bb1⟩
set_option maxHeartbeats 1000000 in
set_option maxRecDepth 100000 in
theorem farther_5 (Aq Ar Ad : Option Addr) (cq cr cd : Nat) (neg : Bool) (Q R D : Nat) (w : World) (hql : (limbs Q).length ≤ 50) (hrl : (limbs R).length ≤ 18) (hdl : (limbs D).length ≤ 18) (oq : OwnI (.slice Aq (limbs Q).length cq) (limbs Q) w) (or_ : OwnI (.slice Ar (limbs R).length cr) (limbs R) w) (od : OwnI (.slice Ad (limbs D).length cd) (limbs D) w) :
    Calls Tryz.prog 174 #[.agg #[.bool neg, .slice Aq (limbs Q).length cq, .slice Ar (limbs R).length cr, .slice Ad (limbs D).length cd]] w (Postb (awayB neg Q R D 5) w) := by
  obtain ⟨c, hc⟩ : ∃ c, cmpI ((R : Int) + R + 0) D = c := ⟨_, rfl⟩
  have HC := Lib.hid hc
  have HA := Lib.hid (away_cmp neg Q R D hc)
  have h3 : c = -1 ∨ c = 0 ∨ c = 1 := by rw [← hc]; exact cmp_three _ _
  have Hq := Lib.hid (show ∀ W, Below w.heap.size w W → OwnI (.slice Aq (limbs Q).length cq) (limbs Q) W from fun W hb => OwnI.belowI oq hb)
  have Hr := Lib.hid (show ∀ W, Below w.heap.size w W → OwnI (.slice Ar (limbs R).length cr) (limbs R) W from fun W hb => OwnI.belowI or_ hb)
  have Hd := Lib.hid (show ∀ W, Below w.heap.size w W → OwnI (.slice Ad (limbs D).length cd) (limbs D) W from fun W hb => OwnI.belowI od hb)
  clear hc oq or_ od
  have bb0 : Below w.heap.size w (w.alloc (.cells #[.bool neg, .slice Aq (limbs Q).length cq, .slice Ar (limbs R).length cr, .slice Ad (limbs D).length cd] 166)) := below_al (Below.refl _ _) _
  have ks := (box_new w #[.bool neg, .slice Aq (limbs Q).length cq, .slice Ar (limbs R).length cr, .slice Ad (limbs D).length cd] 166)
  go_enter Tryz.func174, Tryz.ntmps174
  have ks_c0 := ks.here.cell 0 _ rfl
  have ks_c1 := ks.here.cell 1 _ rfl
  have ks_c2 := ks.here.cell 2 _ rfl
  have ks_c3 := ks.here.cell 3 _ rfl
  go_wp2_with fail
  clear ks_c0 ks_c1 ks_c2 ks_c3
  refine ((overHalf_any Aq Ar Ad cq cr cd neg Q R D _ hql hrl hdl (Hq.out _ bb0) (Hr.out _ bb0) (Hd.out _ bb0)).mono fun _ _ h => postn_eq HC.out h).mono ?_
  rintro e w1 ⟨rfl, b1⟩
  have bb1 := Below.next bb0 b1
  replace ks := ks.below b1
  clear h3 ks
  go_wp2
  go_ret
  exact ⟨ret_bool (HA.out.2.1.symm), bb1⟩
set_option maxHeartbeats 1000000 in
set_option maxRecDepth 100000 in
theorem farther_6 (Aq Ar Ad : Option Addr) (cq cr cd : Nat) (neg : Bool) (Q R D : Nat) (w : World) (hql : (limbs Q).length ≤ 50) (hrl : (limbs R).length ≤ 18) (hdl : (limbs D).length ≤ 18) (oq : OwnI (.slice Aq (limbs Q).length cq) (limbs Q) w) (or_ : OwnI (.slice Ar (limbs R).length cr) (limbs R) w) (od : OwnI (.slice Ad (limbs D).length cd) (limbs D) w) :
    Calls Tryz.prog 175 #[.agg #[.bool neg, .slice Aq (limbs Q).length cq, .slice Ar (limbs R).length cr, .slice Ad (limbs D).length cd]] w (Postb (awayB neg Q R D 6) w) := by
  obtain ⟨c, hc⟩ : ∃ c, cmpI ((R : Int) + R + 0) D = c := ⟨_, rfl⟩
  have HC := Lib.hid hc
  have HA := Lib.hid (away_cmp neg Q R D hc)
  have h3 : c = -1 ∨ c = 0 ∨ c = 1 := by rw [← hc]; exact cmp_three _ _
  have Hq := Lib.hid (show ∀ W, Below w.heap.size w W → OwnI (.slice Aq (limbs Q).length cq) (limbs Q) W from fun W hb => OwnI.belowI oq hb)
  have Hr := Lib.hid (show ∀ W, Below w.heap.size w W → OwnI (.slice Ar (limbs R).length cr) (limbs R) W from fun W hb => OwnI.belowI or_ hb)
  have Hd := Lib.hid (show ∀ W, Below w.heap.size w W → OwnI (.slice Ad (limbs D).length cd) (limbs D) W from fun W hb => OwnI.belowI od hb)
  clear hc oq or_ od
  have bb0 : Below w.heap.size w (w.alloc (.cells #[.bool neg, .slice Aq (limbs Q).length cq, .slice Ar (limbs R).length cr, .slice Ad (limbs D).length cd] 166)) := below_al (Below.refl _ _) _
  have ks := (box_new w #[.bool neg, .slice Aq (limbs Q).length cq, .slice Ar (limbs R).length cr, .slice Ad (limbs D).length cd] 166)
  go_enter Tryz.func175, Tryz.ntmps175
  have ks_c0 := ks.here.cell 0 _ rfl
  have ks_c1 := ks.here.cell 1 _ rfl
  have ks_c2 := ks.here.cell 2 _ rfl
  have ks_c3 := ks.here.cell 3 _ rfl
  go_wp2_with fail
  clear ks_c0 ks_c1 ks_c2 ks_c3
  refine ((overHalf_any Aq Ar Ad cq cr cd neg Q R D _ hql hrl hdl (Hq.out _ bb0) (Hr.out _ bb0) (Hd.out _ bb0)).mono fun _ _ h => postn_eq HC.out h).mono ?_
  rintro e w1 ⟨rfl, b1⟩
  have bb1 := Below.next bb0 b1
  replace ks := ks.below b1
  rcases h3 with rfl | rfl | rfl
  · skip
    have ks_c0 := ks.here.cell 0 _ rfl
    have ks_c1 := ks.here.cell 1 _ rfl
    have ks_c2 := ks.here.cell 2 _ rfl
    have ks_c3 := ks.here.cell 3 _ rfl
    go_wp2_with fail
    clear ks_c0 ks_c1 ks_c2 ks_c3
    refine ((overHalf_any Aq Ar Ad cq cr cd neg Q R D _ hql hrl hdl (Hq.out _ bb1) (Hr.out _ bb1) (Hd.out _ bb1)).mono fun _ _ h => postn_eq HC.out h).mono ?_
    rintro e w2 ⟨rfl, b2⟩
    have bb2 := Below.next bb1 b2
    replace ks := ks.below b2
    clear ks
    go_wp2
    go_ret
    exact ⟨ret_bool ((HA.out.2.2.trans (by simp)).symm), bb2⟩
  · have he : decide (Q % 2 = 1) = !decide (Q % 2 = 0) := by rcases Nat.mod_two_eq_zero_or_one Q with h | h <;> rw [h] <;> rfl
    have HV := Lib.hid (show awayB neg Q R D 6 = !decide (Q % 2 = 0) by rw [HA.out.2.2, he]; rfl)
    clear he HA
    have ks_c0 := ks.here.cell 0 _ rfl
    have ks_c1 := ks.here.cell 1 _ rfl
    have ks_c2 := ks.here.cell 2 _ rfl
    have ks_c3 := ks.here.cell 3 _ rfl
    go_wp2_with fail
    clear ks_c0 ks_c1 ks_c2 ks_c3
    refine ((overHalf_any Aq Ar Ad cq cr cd neg Q R D _ hql hrl hdl (Hq.out _ bb1) (Hr.out _ bb1) (Hd.out _ bb1)).mono fun _ _ h => postn_eq HC.out h).mono ?_
    rintro e w2 ⟨rfl, b2⟩
    have bb2 := Below.next bb1 b2
    replace ks := ks.below b2
    have ks_c0 := ks.here.cell 0 _ rfl
    have ks_c1 := ks.here.cell 1 _ rfl
    have ks_c2 := ks.here.cell 2 _ rfl
    have ks_c3 := ks.here.cell 3 _ rfl
    go_wp2_with fail
    clear ks_c0 ks_c1 ks_c2 ks_c3
    refine (implNatEven_any _ (limbs Q) 0 _ _ (by omega) (OwnI.row (Hq.out _ bb2))).mono ?_
    rintro e w_ ⟨rfl, rfl⟩
    rw [even_limbs (by omega)]
    generalize decide (Q % 2 = 0) = b at *
    clear ks
    cases b
    · skip
      go_wp2
      go_ret
      exact ⟨ret_bool (HV.out.symm), bb2⟩
    · skip
      go_wp2
      go_ret
      exact ⟨ret_bool (HV.out.symm), bb2⟩
  · skip
    clear ks
    go_wp2
    go_ret
    exact ⟨ret_bool ((HA.out.2.2.trans (by simp)).symm), bb1⟩
theorem farther_any (Aq Ar Ad : Option Addr) (cq cr cd : Nat) (neg : Bool) (Q R D : Nat) (w : World) (hql : (limbs Q).length ≤ 50) (hrl : (limbs R).length ≤ 18) (hdl : (limbs D).length ≤ 18) (oq : OwnI (.slice Aq (limbs Q).length cq) (limbs Q) w) (or_ : OwnI (.slice Ar (limbs R).length cr) (limbs R) w) (od : OwnI (.slice Ad (limbs D).length cd) (limbs D) w) (m : Int) (hm : modeB m = true) :
    Calls Tryz.prog (fnOf m) #[.agg #[.bool neg, .slice Aq (limbs Q).length cq, .slice Ar (limbs R).length cr, .slice Ad (limbs D).length cd]] w (Postb (awayB neg Q R D m) w) := by
  rcases modeB_cases hm with rfl | rfl | rfl | rfl | rfl | rfl | rfl
  · exact farther_0 Aq Ar Ad cq cr cd neg Q R D w hql hrl hdl oq or_ od
  · exact farther_1 Aq Ar Ad cq cr cd neg Q R D w hql hrl hdl oq or_ od
  · exact farther_2 Aq Ar Ad cq cr cd neg Q R D w hql hrl hdl oq or_ od
  · exact farther_3 Aq Ar Ad cq cr cd neg Q R D w hql hrl hdl oq or_ od
  · exact farther_4 Aq Ar Ad cq cr cd neg Q R D w hql hrl hdl oq or_ od
  · exact farther_5 Aq Ar Ad cq cr cd neg Q R D w hql hrl hdl oq or_ od
  · exact farther_6 Aq Ar Ad cq cr cd neg Q R D w hql hrl hdl oq or_ od
theorem fnOf_enters {m : Int} (hm : modeB m = true) : Enters Tryz.prog (fnOf m) := by
  rcases modeB_cases hm with rfl | rfl | rfl | rfl | rfl | rfl | rfl
  · exact (enters_of Tryz.func168 (by kernel_rfl) rfl : Enters Tryz.prog 168)
  · exact (enters_of Tryz.func169 (by kernel_rfl) rfl : Enters Tryz.prog 169)
  · exact (enters_of Tryz.func170 (by kernel_rfl) rfl : Enters Tryz.prog 170)
  · exact (enters_of Tryz.func171 (by kernel_rfl) rfl : Enters Tryz.prog 171)
  · exact (enters_of Tryz.func172 (by kernel_rfl) rfl : Enters Tryz.prog 172)
  · exact (enters_of Tryz.func174 (by kernel_rfl) rfl : Enters Tryz.prog 174)
  · exact (enters_of Tryz.func175 (by kernel_rfl) rfl : Enters Tryz.prog 175)
set_option maxHeartbeats 4000000 in
set_option maxRecDepth 100000 in
theorem quotient_any (nm : ByteArray) (vx vd : Value) (x : SI) (D : Nat) (m : Int) (w : World) (hm : modeB m = true) (ok : okS x = true) (h0D : 0 < D) (hdl : (limbs D).length ≤ 18) (hx : OwnS vx x w) (hd : OwnI vd (limbs D) w) (hsen : Sen w) :
    Calls Tryz.prog 152 #[.agg #[.string nm, .func (.func (fnOf m)) #[] #[]], vx, vd] w (NewV (fun u => OwnS u (mkS x.1 (quoL x.1 (nval x.2).toNat D m))) w) := by
  have HS := Lib.hid hsen
  clear hsen
  have Hx := Lib.hid hx
  obtain ⟨Ax, cx, rfl⟩ := ownS_form hx
  have OSx := Lib.hid (show ∀ W, Below w.heap.size w W → OwnS (.agg #[.bool x.1, .slice Ax x.2.length cx]) x W from fun W hb => OwnS.below Hx.out hb)
  have OIx := Lib.hid (show ∀ W, Below w.heap.size w W → OwnI (.slice Ax x.2.length cx) x.2 W from fun W hb => ownS_open (OSx.out W hb))
  clear hx
  obtain ⟨Ad, cd, rfl⟩ := own_len hd
  have ODd := Lib.hid (show ∀ W, Below w.heap.size w W → OwnI (.slice Ad (limbs D).length cd) (limbs D) W from fun W hb => OwnI.belowI hd hb)
  clear hd
  have HM := Lib.hid hm
  have HO := Lib.hid ok
  have HF := Lib.hid (fun (Aq Ar Ad : Option Addr) (cq cr cd : Nat) (neg : Bool) (Q R D : Nat) (w : World) hql hrl hdl oq or_ od => farther_any Aq Ar Ad cq cr cd neg Q R D w hql hrl hdl oq or_ od m hm)
  have he := fnOf_enters hm
  unfold Enters at he
  clear hm
  generalize fnOf m = fk at HF he ⊢
  have bb0 : Below w.heap.size w (((w.alloc (.cells #[.string nm, .func (.func fk) #[] #[]] 149)).alloc (.cells #[.bool x.1, .slice Ax x.2.length cx] 29)).alloc (.cells #[.bool false, .slice none 0 0] 29)) := below_al (below_al (below_al (Below.refl _ _) _) _) _
  have km := (box_new w #[.string nm, .func (.func fk) #[] #[]] 149).below (below_al (below_al (Below.refl _ _) (.cells #[.bool x.1, .slice Ax x.2.length cx] 29)) (.cells #[.bool false, .slice none 0 0] 29))
  have kx := (box_new (w.alloc (.cells #[.string nm, .func (.func fk) #[] #[]] 149)) #[.bool x.1, .slice Ax x.2.length cx] 29).below (below_al (Below.refl _ _) (.cells #[.bool false, .slice none 0 0] 29))
  rw [show (w.alloc (.cells #[.string nm, .func (.func fk) #[] #[]] 149)).heap.size = w.heap.size + 1 by simp] at kx
  have ko := (box_new ((w.alloc (.cells #[.string nm, .func (.func fk) #[] #[]] 149)).alloc (.cells #[.bool x.1, .slice Ax x.2.length cx] 29)) #[.bool false, .slice none 0 0] 29)
  rw [show ((w.alloc (.cells #[.string nm, .func (.func fk) #[] #[]] 149)).alloc (.cells #[.bool x.1, .slice Ax x.2.length cx] 29)).heap.size = w.heap.size + 1 + 1 by simp] at ko
  have HKO := Lib.hid (ko.lt (w.heap.size + 1 + 1) (by simp))
  have hp := okS_parts ok
  have hn := nval_ok hp.1
  have hx50 := (natOk_parts hp.1).2.1
  obtain ⟨A, hA⟩ : ∃ A, (nval x.2).toNat = A := ⟨_, rfl⟩
  have hxA : x.2 = limbs A := by rw [← hA]; exact natOk_limbs hp.1
  have hnA : nval x.2 = (A : Int) := by omega
  rw [hA]
  obtain ⟨Q, hQ⟩ : ∃ Q, A / D = Q := ⟨_, rfl⟩
  obtain ⟨R, hR⟩ : ∃ R, A % D = R := ⟨_, rfl⟩
  have EQ := Lib.hid hQ
  have ER := Lib.hid hR
  have hAl := nval_lt (limbs A) (limbs_digN A)
  rw [limbs_val, ← hxA] at hAl
  have hql : (limbs Q).length ≤ 50 := Nat.le_trans (limbs_length_le Q x.2.length (by have h1 := Nat.div_le_self A D; rw [hQ] at h1; omega)) hx50
  have hDl := nval_lt (limbs D) (limbs_digN D)
  rw [limbs_val] at hDl
  have hrl : (limbs R).length ≤ 18 := Nat.le_trans (limbs_length_le R (limbs D).length (by have h1 := Nat.mod_lt A h0D; rw [hR] at h1; omega)) hdl
  have hD0 : 0 < (limbs D).length := by have := (limbs_zero_iff D).1; omega
  have hdv : divN x.2 (limbs D) = (limbs Q, limbs R) := by unfold divN; rw [if_pos ⟨hp.1, limbs_okL D (by omega), hD0⟩, hnA, limbs_val, div_toNat, ← Int.natCast_emod, Int.toNat_natCast, hQ, hR]
  have E1 := Lib.hid (show (divN x.2 (limbs D)).1 = limbs Q by rw [hdv])
  have E2 := Lib.hid (show (divN x.2 (limbs D)).2 = limbs R by rw [hdv])
  clear hA hxA hnA hQ hR hAl hDl hdv hp hn ok hD0 h0D
  go_enter Tryz.func152, Tryz.ntmps152
  have kx_c0 := kx.here.cell 0 _ rfl
  have kx_c1 := kx.here.cell 1 _ rfl
  go_wp2_with fail
  clear kx_c0 kx_c1
  refine ((implNatDiv_any _ _ x.2 (limbs D) 0 _ 0 _ _ (by omega) (by omega) (Nat.le_refl _) (Nat.le_refl _) (OIx.out _ bb0).row (ODd.out _ bb0).row (HS.out.below bb0)).mono fun _ _ h => twoRows_eq h E1.out E2.out).mono ?_
  rintro e w1 ⟨vq, vr_, rfl, oq0, or0, hqr, b1⟩
  obtain ⟨Aq, cq, rfl⟩ := own_len oq0
  obtain ⟨As, cs, rfl⟩ := own_len or0
  have oq := own_at' oq0
  have os := own_at' or0
  have lq := own_within oq0
  clear oq0 or0 hqr
  have bb1 := Below.next bb0 b1
  replace km := km.below b1
  replace kx := kx.below b1
  replace ko := ko.below b1
  by_cases h0 : R = 0
  · have HV := Lib.hid (show quoL x.1 A D m = limbs Q from quoL_plain EQ.out ER.out (.inl h0))
    subst h0
    rw [show (limbs 0).length = 0 by rw [limbs_zero]; rfl] at *
    clear os
    have hX50 : (limbs Q).length ≤ 50 := hql
    obtain ⟨sg, hsg⟩ : ∃ sg, (x.1 && decide (0 < (limbs Q).length)) = sg := ⟨_, rfl⟩
    have ESG := Lib.hid hsg
    have EM := Lib.hid (show mkS x.1 (quoL x.1 A D m) = (sg, limbs Q) by rw [HV.out]; exact mkS_quo hX50 hsg)
    clear hsg
    have kx_c0 := kx.here.cell 0 _ rfl
    have kx_c1 := kx.here.cell 1 _ rfl
    have kn := box_new (w1) #[.slice Aq (limbs Q).length cq, .bool x.1] 115
    have aln := below_al (Below.refl (w1).heap.size (w1)) (.cells #[.slice Aq (limbs Q).length cq, .bool x.1] 115)
    have bbn := Below.next bb1 aln
    replace km := km.below aln
    replace kx := kx.below aln
    replace ko := ko.below aln
    replace oq := oq.below aln
    go_wp2_with fail
    clear kx_c0 kx_c1
    refine (signed_same _ _ Aq cq (limbs Q) sg _ hX50 ESG.out kn.here).mono ?_
    rintro e w2 ⟨rfl, b2⟩
    have bb2 := Below.next bbn b2
    replace km := km.below b2
    replace kx := kx.below b2
    replace ko := ko.below b2
    replace oq := oq.below b2
    replace kn := kn.below b2
    have of := oq.imp (fun _ h => (OwnS.mk h : OwnS (.agg #[.bool (sg, (limbs Q)).1, .slice Aq (limbs Q).length cq]) (sg, (limbs Q)) _))
    have lf := within_up lq (Nat.le_refl _) (show _ ≤ w2.heap.size by have := aln.size; have := b2.size; omega)
    have HW := Lib.hid (newS_at (r := w.heap.size + 1 + 1) of lf (by have := HKO.out; have := b1.size;  omega) (by omega) bb2)
    have cz0 := ko.here.cell 0 _ rfl
    have fz0 := Lib.frozen_of_heap ko.here 0
    have cz1 := ko.here.cell 1 _ rfl
    have fz1 := Lib.frozen_of_heap ko.here 1
    clear of ko kn km
    go_wp2
    refine bodyPost_ret (v := .agg #[.bool sg, .slice Aq _ cq]) (by simp [results, Tryz.results152, go_sem, cz0, cz1]; try rfl) rfl ?_
    rw [EM.out]
    exact HW.out
  · have hlen : ((limbs R).length : Int) > 0 := by have := mt (limbs_zero_iff R).1 h0; omega
    have H0 := Lib.hid h0
    clear h0
    have kx_c0 := kx.here.cell 0 _ rfl
    have kx_c1 := kx.here.cell 1 _ rfl
    have km_c0 := km.here.cell 0 _ rfl
    have km_c1 := km.here.cell 1 _ rfl
    go_wp2_with fail
    clear kx_c0 kx_c1 km_c0 km_c1
    refine (show Calls _ fk #[.agg #[.bool x.1, .slice Aq (limbs Q).length cq, .slice As (limbs R).length cs, .slice Ad (limbs D).length cd]] _ (Postb (awayB x.1 Q R D m) _) from HF.out Aq As Ad cq cs cd x.1 Q R D _ hql hrl hdl oq.here os.here (ODd.out _ bb1)).mono ?_
    rintro e w2 ⟨rfl, b2⟩
    have bb2 := Below.next bb1 b2
    replace km := km.below b2
    replace kx := kx.below b2
    replace ko := ko.below b2
    replace oq := oq.below b2
    replace os := os.below b2
    by_cases ha : awayB x.1 Q R D m = true
    · have HV := Lib.hid (show quoL x.1 A D m = addN (limbs Q) (limbs 1) from quoL_more EQ.out ER.out H0.out ha)
      rw [ha]
      clear ha
      have kx_c0 := kx.here.cell 0 _ rfl
      have kx_c1 := kx.here.cell 1 _ rfl
      go_wp2_with fail
      clear kx_c0 kx_c1
      refine (implNatOf_any 1 _ (by decide)).mono ?_
      rintro e w3 ⟨vo, rfl, oo, b3⟩
      rw [show (1 : Int).toNat = 1 from rfl] at oo
      have bb3 := Below.next bb2 b3
      replace km := km.below b3
      replace kx := kx.below b3
      replace ko := ko.below b3
      replace oq := oq.below b3
      replace os := os.below b3
      go_wp2_with fail
      refine (implNatAdd_any _ _ (limbs Q) (limbs 1) 0 _ _ _ _ (by omega) (by rw [one_limbs]; decide) (Nat.le_refl _) (Nat.le_refl _) oq.here.row (Row.of_own oo)).mono ?_
      rintro e w4 ⟨vz, rfl, oz0, b4⟩
      obtain ⟨Az, cz, rfl⟩ := own_len oz0
      have oz := own_at' oz0
      have lz := own_within oz0
      clear oz0
      have bb4 := Below.next bb3 b4
      replace km := km.below b4
      replace kx := kx.below b4
      replace ko := ko.below b4
      replace oq := oq.below b4
      replace os := os.below b4
      clear oq os
      have hX50 : (addN (limbs Q) (limbs 1)).length ≤ 50 := addN_len50 _ _
      obtain ⟨sg, hsg⟩ : ∃ sg, (x.1 && decide (0 < (addN (limbs Q) (limbs 1)).length)) = sg := ⟨_, rfl⟩
      have ESG := Lib.hid hsg
      have EM := Lib.hid (show mkS x.1 (quoL x.1 A D m) = (sg, addN (limbs Q) (limbs 1)) by rw [HV.out]; exact mkS_quo hX50 hsg)
      clear hsg
      have kx_c0 := kx.here.cell 0 _ rfl
      have kx_c1 := kx.here.cell 1 _ rfl
      have kn := box_new (w4) #[.slice Az (addN (limbs Q) (limbs 1)).length cz, .bool x.1] 115
      have aln := below_al (Below.refl (w4).heap.size (w4)) (.cells #[.slice Az (addN (limbs Q) (limbs 1)).length cz, .bool x.1] 115)
      have bbn := Below.next bb4 aln
      replace km := km.below aln
      replace kx := kx.below aln
      replace ko := ko.below aln
      replace oz := oz.below aln
      go_wp2_with fail
      clear kx_c0 kx_c1
      refine (signed_same _ _ Az cz (addN (limbs Q) (limbs 1)) sg _ hX50 ESG.out kn.here).mono ?_
      rintro e w5 ⟨rfl, b5⟩
      have bb5 := Below.next bbn b5
      replace km := km.below b5
      replace kx := kx.below b5
      replace ko := ko.below b5
      replace oz := oz.below b5
      replace kn := kn.below b5
      have of := oz.imp (fun _ h => (OwnS.mk h : OwnS (.agg #[.bool (sg, (addN (limbs Q) (limbs 1))).1, .slice Az (addN (limbs Q) (limbs 1)).length cz]) (sg, (addN (limbs Q) (limbs 1))) _))
      have lf := within_up lz (Nat.le_refl _) (show _ ≤ w5.heap.size by have := aln.size; have := b2.size; have := b3.size; have := b4.size; have := b5.size; omega)
      have HW := Lib.hid (newS_at (r := w.heap.size + 1 + 1) of lf (by have := HKO.out; have := b1.size; have := b2.size; have := b3.size; have := b4.size; omega) (by omega) bb5)
      have cz0 := ko.here.cell 0 _ rfl
      have fz0 := Lib.frozen_of_heap ko.here 0
      have cz1 := ko.here.cell 1 _ rfl
      have fz1 := Lib.frozen_of_heap ko.here 1
      clear of ko kn km
      go_wp2
      refine bodyPost_ret (v := .agg #[.bool sg, .slice Az _ cz]) (by simp [results, Tryz.results152, go_sem, cz0, cz1]; try rfl) rfl ?_
      rw [EM.out]
      exact HW.out
    · have ha' : awayB x.1 Q R D m = false := by simpa using ha
      have HV := Lib.hid (show quoL x.1 A D m = limbs Q from quoL_plain EQ.out ER.out (.inr ha'))
      rw [ha']
      clear ha ha' os
      have hX50 : (limbs Q).length ≤ 50 := hql
      obtain ⟨sg, hsg⟩ : ∃ sg, (x.1 && decide (0 < (limbs Q).length)) = sg := ⟨_, rfl⟩
      have ESG := Lib.hid hsg
      have EM := Lib.hid (show mkS x.1 (quoL x.1 A D m) = (sg, limbs Q) by rw [HV.out]; exact mkS_quo hX50 hsg)
      clear hsg
      have kx_c0 := kx.here.cell 0 _ rfl
      have kx_c1 := kx.here.cell 1 _ rfl
      have kn := box_new (w2) #[.slice Aq (limbs Q).length cq, .bool x.1] 115
      have aln := below_al (Below.refl (w2).heap.size (w2)) (.cells #[.slice Aq (limbs Q).length cq, .bool x.1] 115)
      have bbn := Below.next bb2 aln
      replace km := km.below aln
      replace kx := kx.below aln
      replace ko := ko.below aln
      replace oq := oq.below aln
      go_wp2_with fail
      clear kx_c0 kx_c1
      refine (signed_same _ _ Aq cq (limbs Q) sg _ hX50 ESG.out kn.here).mono ?_
      rintro e w3 ⟨rfl, b3⟩
      have bb3 := Below.next bbn b3
      replace km := km.below b3
      replace kx := kx.below b3
      replace ko := ko.below b3
      replace oq := oq.below b3
      replace kn := kn.below b3
      have of := oq.imp (fun _ h => (OwnS.mk h : OwnS (.agg #[.bool (sg, (limbs Q)).1, .slice Aq (limbs Q).length cq]) (sg, (limbs Q)) _))
      have lf := within_up lq (Nat.le_refl _) (show _ ≤ w3.heap.size by have := aln.size; have := b2.size; have := b3.size; omega)
      have HW := Lib.hid (newS_at (r := w.heap.size + 1 + 1) of lf (by have := HKO.out; have := b1.size; have := b2.size; omega) (by omega) bb3)
      have cz0 := ko.here.cell 0 _ rfl
      have fz0 := Lib.frozen_of_heap ko.here 0
      have cz1 := ko.here.cell 1 _ rfl
      have fz1 := Lib.frozen_of_heap ko.here 1
      clear of ko kn km
      go_wp2
      refine bodyPost_ret (v := .agg #[.bool sg, .slice Aq _ cq]) (by simp [results, Tryz.results152, go_sem, cz0, cz1]; try rfl) rfl ?_
      rw [EM.out]
      exact HW.out
set_option maxHeartbeats 4000000 in
set_option maxRecDepth 100000 in
theorem implRatRound_any (vr : Value) (r : QI) (m : Int) (w : World) (hz : szQ r ≤ 1048576) (hr : OwnQ vr r w) (hsen : Sen w) :
    Calls Tryz.prog 122 #[vr, .int .i64 m] w (PostSb (roundR r m).1 (roundR r m).2 w) := by
  have HS := Lib.hid hsen
  clear hsen
  have Hr := Lib.hid hr
  obtain ⟨Ar, cr, Br, dr, rfl⟩ := ownQ_form hr
  have OQr := Lib.hid (show ∀ W, Below w.heap.size w W → OwnQ (.agg #[.bool r.1.1, .slice Ar r.1.2.length cr, .slice Br r.2.length dr]) r W from fun W hb => OwnQ.below Hr.out hb)
  have OUr := Lib.hid (show ∀ W, Below w.heap.size w W → OwnI (.slice Ar r.1.2.length cr) r.1.2 W from fun W hb => (ownQ_open (OQr.out W hb)).2.1)
  have ODr := Lib.hid (show ∀ W, Below w.heap.size w W → OwnI (.slice Br r.2.length dr) r.2 W from fun W hb => (ownQ_open (OQr.out W hb)).2.2.1)
  have OSr := Lib.hid (show ∀ W, Below w.heap.size w W → OwnS (.agg #[.bool r.1.1, .slice Ar r.1.2.length cr]) r.1 W from fun W hb => OwnS.mk (OUr.out W hb))
  clear hr
  have bb0 : Below w.heap.size w ((w.alloc (.cells #[.bool r.1.1, .slice Ar r.1.2.length cr, .slice Br r.2.length dr] 63)).alloc (.cells #[.bool false, .slice none 0 0] 29)) := below_al (below_al (Below.refl _ _) _) _
  have kr := (box_new w #[.bool r.1.1, .slice Ar r.1.2.length cr, .slice Br r.2.length dr] 63).below (below_al (Below.refl _ _) (.cells #[.bool false, .slice none 0 0] 29))
  have ko := (box_new (w.alloc (.cells #[.bool r.1.1, .slice Ar r.1.2.length cr, .slice Br r.2.length dr] 63)) #[.bool false, .slice none 0 0] 29)
  rw [show (w.alloc (.cells #[.bool r.1.1, .slice Ar r.1.2.length cr, .slice Br r.2.length dr] 63)).heap.size = w.heap.size + 1 by simp] at ko
  have HKO := Lib.hid (ko.lt (w.heap.size + 1) (by simp))
  by_cases hm : modeB m = true
  · have HM := Lib.hid hm
    have HRO := Lib.hid (roundingOf_mode m hm)
    have HQU := Lib.hid (fun (nm : ByteArray) (vx vd : Value) (x : SI) (D : Nat) (w : World) => quotient_any nm vx vd x D m w hm)
    clear hm
    generalize nameB m = nm at HRO
    generalize fnOf m = fk at HRO HQU
    go_enter Tryz.func122, Tryz.ntmps122
    go_wp2_with fail
    refine (HRO.out _).mono ?_
    rintro e w1 ⟨rfl, b1⟩
    have bb1 := Below.next bb0 b1
    replace kr := kr.below b1
    replace ko := ko.below b1
    have km := box_new (w1) #[.string nm, .func (.func fk) #[] #[]] 149
    have alm := below_al (Below.refl (w1).heap.size (w1)) (.cells #[.string nm, .func (.func fk) #[] #[]] 149)
    have bbm := Below.next bb1 alm
    replace kr := kr.below alm
    replace ko := ko.below alm
    have kr_c0 := kr.here.cell 0 _ rfl
    have kr_c1 := kr.here.cell 1 _ rfl
    have kr_c2 := kr.here.cell 2 _ rfl
    go_wp2_with fail
    clear kr_c0 kr_c1 kr_c2
    refine (implRatOk_any _ r _ hz (OQr.out _ bbm) (HS.out.below bbm)).mono ?_
    rintro e w2 ⟨rfl, b2⟩
    have bb2 := Below.next bbm b2
    replace kr := kr.below b2
    replace ko := ko.below b2
    replace km := km.below b2
    by_cases ok : okQ r = true
    · rw [ok]
      have HO := Lib.hid ok
      have HP := Lib.hid (parts_of ok)
      have hlt := roundN_lt HP.out m
      have hq0 := quot_len ok
      have HV := Lib.hid (show roundR r m = (mkS r.1.1 (quoL r.1.1 (nval r.1.2).toNat (denQ r) m), true) by
        unfold roundR
        rw [if_pos ⟨ok, HM.out⟩]
        unfold roundS
        rw [quoL_is (by
          have h1 := Nat.div_le_self (topN r) (denQ r)
          have h2 := HP.out.nlt
          have h3 : bp 18 < bp 19 := bp_step 18
          have h4 : bp 19 ≤ bp 50 := bp_mono (by omega)
          show ((topN r / denQ r : Nat) : Int) + 1 < bp 50
          omega)]
        rfl)
      obtain ⟨X, hX⟩ : ∃ X, mkS r.1.1 (quoL r.1.1 (nval r.1.2).toNat (denQ r) m) = X := ⟨_, rfl⟩
      have EX := Lib.hid hX
      rw [hX] at HV
      clear ok hX hlt hq0
      have kr_c0 := kr.here.cell 0 _ rfl
      have kr_c1 := kr.here.cell 1 _ rfl
      have kr_c2 := kr.here.cell 2 _ rfl
      have km_c0 := km.here.cell 0 _ rfl
      have km_c1 := km.here.cell 1 _ rfl
      go_wp2_with fail
      clear kr_c0 kr_c1 kr_c2 km_c0 km_c1
      refine ((HQU.out nm _ _ r.1 (denQ r) _ HP.out.okn (denQ_pos HO.out) (by have e := HP.out.d; rw [← e]; exact HP.out.d50) (OSr.out _ bb2) (ownI_eq (ODr.out _ bb2) HP.out.d) (HS.out.below bb2)).mono fun _ _ h => roundVS_eq EX.out h).mono ?_
      rintro e w3 ⟨uf, Sf, rfl, of, lf, b3⟩
      obtain ⟨Af, cf, rfl⟩ := ownS_form of.here
      have bb3 := Below.next bb2 b3
      replace kr := kr.below b3
      replace ko := ko.below b3
      replace km := km.below b3
      clear kr km
      have HW := Lib.hid (newSb_at (b := true) (r := w.heap.size + 1) of lf (by have := HKO.out; have := b1.size; have := alm.size; have := b2.size; omega) (by omega) bb3)
      have cz0 := ko.here.cell 0 _ rfl
      have fz0 := Lib.frozen_of_heap ko.here 0
      have cz1 := ko.here.cell 1 _ rfl
      have fz1 := Lib.frozen_of_heap ko.here 1
      clear of ko
      go_wp2
      refine bodyPost_ret (v := .tuple #[.agg #[.bool _, .slice Af _ cf], .bool _]) (by simp [results, Tryz.results122, go_sem, cz0, cz1]; exact ⟨⟨rfl, rfl⟩, rfl⟩) rfl ?_
      rw [HV.out]
      exact HW.out
    · have ok' : okQ r = false := by simpa using ok
      have HV := Lib.hid (show roundR r m = (zeroS, false) by unfold roundR; rw [if_neg (fun h => ok h.1)])
      rw [ok']
      clear ok ok'
      have cz0 := ko.here.cell 0 _ rfl
      have fz0 := Lib.frozen_of_heap ko.here 0
      have cz1 := ko.here.cell 1 _ rfl
      have fz1 := Lib.frozen_of_heap ko.here 1
      go_wp2
      refine bodyPost_ret (v := .tuple #[.agg #[.bool false, .slice none 0 0], .bool false]) (by simp [results, Tryz.results122, go_sem, cz0, cz1]) rfl ?_
      rw [HV.out]
      first | exact newSb_zero _ bb2 | exact newSb_zero _ (below_set2 bb2 (by omega))
  · have HRO := Lib.hid (roundingOf_none m hm)
    have HV := Lib.hid (show roundR r m = (zeroS, false) by unfold roundR; rw [if_neg (fun h => hm h.2)])
    clear hm
    go_enter Tryz.func122, Tryz.ntmps122
    go_wp2_with fail
    refine (HRO.out _).mono ?_
    rintro e w1 ⟨rfl, b1⟩
    have bb1 := Below.next bb0 b1
    replace kr := kr.below b1
    replace ko := ko.below b1
    have km := box_new (w1) #[.string ⟨#[]⟩, .nilFunc] 149
    have alm := below_al (Below.refl (w1).heap.size (w1)) (.cells #[.string ⟨#[]⟩, .nilFunc] 149)
    have bbm := Below.next bb1 alm
    replace kr := kr.below alm
    replace ko := ko.below alm
    have cz0 := ko.here.cell 0 _ rfl
    have fz0 := Lib.frozen_of_heap ko.here 0
    have cz1 := ko.here.cell 1 _ rfl
    have fz1 := Lib.frozen_of_heap ko.here 1
    go_wp2
    refine bodyPost_ret (v := .tuple #[.agg #[.bool false, .slice none 0 0], .bool false]) (by simp [results, Tryz.results122, go_sem, cz0, cz1]) rfl ?_
    rw [HV.out]
    first | exact newSb_zero _ bbm | exact newSb_zero _ (below_set2 bbm (by omega))
end Go.Proofs.YtofehcpapdlcnabGreatDoor

namespace Go.Proofs.YtofehcpapdlcnabGreatDoor
open Go.RowKit

end Go.Proofs.YtofehcpapdlcnabGreatDoor

namespace Go.Proofs.YtofehcpapdlcnabGreatDoor
open Go.RowKit

set_option maxHeartbeats 4000000 in
set_option maxRecDepth 100000 in
theorem implRatRest_any (vr : Value) (r : QI) (m : Int) (w : World) (hz : szQ r ≤ 1048576) (hr : OwnQ vr r w) (hsen : Sen w) :
    Calls Tryz.prog 88 #[vr, .int .i64 m] w (PostSQb (restS r m) (restQ r m) (restB r m) w) := by
  have HS := Lib.hid hsen
  clear hsen
  have Hr := Lib.hid hr
  obtain ⟨Ar, cr, Br, dr, rfl⟩ := ownQ_form hr
  have OQr := Lib.hid (show ∀ W, Below w.heap.size w W → OwnQ (.agg #[.bool r.1.1, .slice Ar r.1.2.length cr, .slice Br r.2.length dr]) r W from fun W hb => OwnQ.below Hr.out hb)
  have OUr := Lib.hid (show ∀ W, Below w.heap.size w W → OwnI (.slice Ar r.1.2.length cr) r.1.2 W from fun W hb => (ownQ_open (OQr.out W hb)).2.1)
  have ODr := Lib.hid (show ∀ W, Below w.heap.size w W → OwnI (.slice Br r.2.length dr) r.2 W from fun W hb => (ownQ_open (OQr.out W hb)).2.2.1)
  have OSr := Lib.hid (show ∀ W, Below w.heap.size w W → OwnS (.agg #[.bool r.1.1, .slice Ar r.1.2.length cr]) r.1 W from fun W hb => OwnS.mk (OUr.out W hb))
  clear hr
  have bb0 : Below w.heap.size w (((w.alloc (.cells #[.bool r.1.1, .slice Ar r.1.2.length cr, .slice Br r.2.length dr] 63)).alloc (.cells #[.bool false, .slice none 0 0] 29)).alloc (.cells #[.bool false, .slice none 0 0, .slice none 0 0] 63)) := below_al (below_al (below_al (Below.refl _ _) _) _) _
  have kr := (box_new w #[.bool r.1.1, .slice Ar r.1.2.length cr, .slice Br r.2.length dr] 63).below (below_al (below_al (Below.refl _ _) (.cells #[.bool false, .slice none 0 0] 29)) (.cells #[.bool false, .slice none 0 0, .slice none 0 0] 63))
  have ko := (box_new (w.alloc (.cells #[.bool r.1.1, .slice Ar r.1.2.length cr, .slice Br r.2.length dr] 63)) #[.bool false, .slice none 0 0] 29).below (below_al (Below.refl _ _) (.cells #[.bool false, .slice none 0 0, .slice none 0 0] 63))
  rw [show (w.alloc (.cells #[.bool r.1.1, .slice Ar r.1.2.length cr, .slice Br r.2.length dr] 63)).heap.size = w.heap.size + 1 by simp] at ko
  have kp := (box_new ((w.alloc (.cells #[.bool r.1.1, .slice Ar r.1.2.length cr, .slice Br r.2.length dr] 63)).alloc (.cells #[.bool false, .slice none 0 0] 29)) #[.bool false, .slice none 0 0, .slice none 0 0] 63)
  rw [show ((w.alloc (.cells #[.bool r.1.1, .slice Ar r.1.2.length cr, .slice Br r.2.length dr] 63)).alloc (.cells #[.bool false, .slice none 0 0] 29)).heap.size = w.heap.size + 1 + 1 by simp] at kp
  have HKO := Lib.hid (ko.lt (w.heap.size + 1) (by simp))
  have HKP := Lib.hid (kp.lt (w.heap.size + 1 + 1) (by simp))
  obtain ⟨X, hX⟩ : ∃ X, (roundR r m).1 = X := ⟨_, rfl⟩
  obtain ⟨Y, hY⟩ : ∃ Y, (makeQ X (ofZ 1)).1 = Y := ⟨_, rfl⟩
  obtain ⟨Z, hZ⟩ : ∃ Z, (subQ r Y).1 = Z := ⟨_, rfl⟩
  have zX : szS X ≤ 1048576 := by rw [← hX]; exact roundR_sz r m
  have zY : szQ Y ≤ 1048576 := by rw [← hY]; exact makeQ_szQ _ _
  by_cases hb : okQ r = true ∧ modeB m = true
  · obtain ⟨r1, r2, r3, r4⟩ := rest_all hb.1 hb.2
    have ER := Lib.hid (show roundR r m = (X, true) by rw [r1, ← hX, r1])
    have rp := rest_parts hb.1 m
    have e0 : roundS r m = X := by rw [← hX, r1]
    rw [e0] at rp r3 r4
    rw [hY] at rp r4
    rw [hZ] at r4
    have EM := Lib.hid (show makeQ X (ofZ 1) = (Y, true) by rw [← hY, ← rp.1])
    have ES := Lib.hid (show subQ r Y = (Z, true) by rw [← hZ, ← rp.2])
    have HV := Lib.hid (show restS r m = X ∧ restQ r m = Z ∧ restB r m = true from ⟨r3, r4, r2⟩)
    clear rp e0
    clear hX hY hZ r1 r2 r3 r4 hb
    go_enter Tryz.func88, Tryz.ntmps88
    have kr_c0 := kr.here.cell 0 _ rfl
    have kr_c1 := kr.here.cell 1 _ rfl
    have kr_c2 := kr.here.cell 2 _ rfl
    go_wp2_with fail
    clear kr_c0 kr_c1 kr_c2
    refine ((implRatRound_any _ r m _ hz (OQr.out _ bb0) (HS.out.below bb0)).mono fun _ _ h => postSb_is ER.out h).mono ?_
    rintro e w1 ⟨ux, Sx, rfl, ox, lx, b1⟩
    obtain ⟨Ax, cx, rfl⟩ := ownS_form ox.here
    have bb1 := Below.next bb0 b1
    replace kr := kr.below b1
    replace ko := ko.below b1
    replace kp := kp.below b1
    have kx := box_new (w1) #[.bool X.1, .slice Ax X.2.length cx] 29
    have alx := below_al (Below.refl (w1).heap.size (w1)) (.cells #[.bool X.1, .slice Ax X.2.length cx] 29)
    have bbx := Below.next bb1 alx
    replace kr := kr.below alx
    replace ko := ko.below alx
    replace kp := kp.below alx
    replace ox := ox.below alx
    have kx_c0 := kx.here.cell 0 _ rfl
    have kx_c1 := kx.here.cell 1 _ rfl
    go_wp2_with fail
    clear kx_c0 kx_c1
    refine ((implRatInt_any _ X _ zX ox.here (HS.out.below bbx)).mono fun _ _ h => postQb_is EM.out h).mono ?_
    rintro e w2 ⟨uy, Sy, rfl, oy, ly, b2⟩
    obtain ⟨Ay, cy, By, dy, rfl⟩ := ownQ_form oy.here
    have bb2 := Below.next bbx b2
    replace kr := kr.below b2
    replace ko := ko.below b2
    replace kp := kp.below b2
    replace ox := ox.below b2
    replace kx := kx.below b2
    have ky := box_new (w2) #[.bool Y.1.1, .slice Ay Y.1.2.length cy, .slice By Y.2.length dy] 63
    have aly := below_al (Below.refl (w2).heap.size (w2)) (.cells #[.bool Y.1.1, .slice Ay Y.1.2.length cy, .slice By Y.2.length dy] 63)
    have bby := Below.next bb2 aly
    replace kr := kr.below aly
    replace ko := ko.below aly
    replace kp := kp.below aly
    replace ox := ox.below aly
    replace kx := kx.below aly
    replace oy := oy.below aly
    have kr_c0 := kr.here.cell 0 _ rfl
    have kr_c1 := kr.here.cell 1 _ rfl
    have kr_c2 := kr.here.cell 2 _ rfl
    have ky_c0 := ky.here.cell 0 _ rfl
    have ky_c1 := ky.here.cell 1 _ rfl
    have ky_c2 := ky.here.cell 2 _ rfl
    go_wp2_with fail
    clear kr_c0 kr_c1 kr_c2 ky_c0 ky_c1 ky_c2
    refine ((implRatSub_any _ _ r Y _ hz zY (OQr.out _ bby) oy.here (HS.out.below bby)).mono fun _ _ h => postQb_is ES.out h).mono ?_
    rintro e w3 ⟨uz, Sz, rfl, oz, lz, b3⟩
    obtain ⟨Az, cz, Bz, dz, rfl⟩ := ownQ_form oz.here
    have bb3 := Below.next bby b3
    replace kr := kr.below b3
    replace ko := ko.below b3
    replace kp := kp.below b3
    replace ox := ox.below b3
    replace kx := kx.below b3
    replace oy := oy.below b3
    replace ky := ky.below b3
    have kz := box_new (w3) #[.bool Z.1.1, .slice Az Z.1.2.length cz, .slice Bz Z.2.length dz] 63
    have alz := below_al (Below.refl (w3).heap.size (w3)) (.cells #[.bool Z.1.1, .slice Az Z.1.2.length cz, .slice Bz Z.2.length dz] 63)
    have bbz := Below.next bb3 alz
    replace kr := kr.below alz
    replace ko := ko.below alz
    replace kp := kp.below alz
    replace ox := ox.below alz
    replace kx := kx.below alz
    replace oy := oy.below alz
    replace ky := ky.below alz
    replace oz := oz.below alz
    have z1 := b1.size
    have z2 := b2.size
    have z3 := b3.size
    have zx := alx.size
    have zy := aly.size
    have zz := alz.size
    have HKX := Lib.hid (kx.lt _ (List.mem_singleton.2 rfl))
    have HW := Lib.hid (newSQb_at (b := true) (r := w.heap.size + 1) (p := w.heap.size + 1 + 1) ox oz (within_up lx (Nat.le_refl _) (Nat.le_trans zx (Nat.le_trans z2 (Nat.le_trans zy (Nat.le_trans z3 zz))))) (within_up lz (Nat.le_refl _) zz) (Within.apart lx lz (.inl (Nat.le_trans zx (Nat.le_trans z2 zy)))) HKP.out (Nat.lt_of_lt_of_le HKP.out (Nat.le_trans z1 (Nat.le_trans zx (Nat.le_trans z2 zy)))) (by omega) (by omega) (by omega) bbz)
    have hs1 := HKP.out
    have hs2 := Nat.lt_of_lt_of_le HKP.out z1
    have hs3 := Nat.lt_of_lt_of_le hs2 (Nat.le_trans zx (Nat.le_trans z2 (Nat.le_trans zy z3)))
    have hn_w1_1 : ¬ w1.heap.size = w.heap.size + 1 := by omega
    have hn_w1_1' : ¬ w.heap.size + 1 = w1.heap.size := by omega
    have hn_w1_2 : ¬ w1.heap.size = w.heap.size + 1 + 1 := by omega
    have hn_w1_2' : ¬ w.heap.size + 1 + 1 = w1.heap.size := by omega
    have hn_w3_1 : ¬ w3.heap.size = w.heap.size + 1 := by omega
    have hn_w3_1' : ¬ w.heap.size + 1 = w3.heap.size := by omega
    have hn_w3_2 : ¬ w3.heap.size = w.heap.size + 1 + 1 := by omega
    have hn_w3_2' : ¬ w.heap.size + 1 + 1 = w3.heap.size := by omega
    clear hs1 hs2 hs3
    have cko0 := ko.here.cell 0 _ rfl
    have cko1 := ko.here.cell 1 _ rfl
    have fko0 := Lib.frozen_of_heap ko.here 0
    have fko1 := Lib.frozen_of_heap ko.here 1
    have ckp0 := kp.here.cell 0 _ rfl
    have ckp1 := kp.here.cell 1 _ rfl
    have ckp2 := kp.here.cell 2 _ rfl
    have fkp0 := Lib.frozen_of_heap kp.here 0
    have fkp1 := Lib.frozen_of_heap kp.here 1
    have fkp2 := Lib.frozen_of_heap kp.here 2
    have ckx0 := kx.here.cell 0 _ rfl
    have ckx1 := kx.here.cell 1 _ rfl
    have ckz0 := kz.here.cell 0 _ rfl
    have ckz1 := kz.here.cell 1 _ rfl
    have ckz2 := kz.here.cell 2 _ rfl
    clear ox oy oz ko kp kr kx ky kz z1 z2 z3 zx zy zz lx ly lz
    go_wp2_with fail
    go_region
    all_goals (go_wp2; refine bodyPost_ret (v := .tuple #[.agg #[.bool X.1, .slice Ax X.2.length cx], .agg #[.bool Z.1.1, .slice Az Z.1.2.length cz, .slice Bz Z.2.length dz], .bool true]) (by simp [results, Tryz.results88, go_sem, cko0, cko1, ckp0, ckp1, ckp2]) rfl ?_)
    all_goals (rw [HV.out.1, HV.out.2.1, HV.out.2.2]; refine HW.out _ ?_; repeat (first | exact Chg.refl _ _ | refine Chg.setCell ?_ (by simp) _ | refine Chg.drew1 ?_))
  · obtain ⟨r1, r2, r3, r4⟩ := rest_none hb
    have ER := Lib.hid (show roundR r m = (X, false) by rw [r1, ← hX, r1])
    have HV := Lib.hid (show restS r m = zeroS ∧ restQ r m = zeroQ ∧ restB r m = false from ⟨r3, r4, r2⟩)
    obtain ⟨by_, hby⟩ : ∃ b, (makeQ X (ofZ 1)).2 = b := ⟨_, rfl⟩
    obtain ⟨bz_, hbz⟩ : ∃ b, (subQ r Y).2 = b := ⟨_, rfl⟩
    have EM := Lib.hid (show makeQ X (ofZ 1) = (Y, by_) by rw [← hY, ← hby])
    have ES := Lib.hid (show subQ r Y = (Z, bz_) by rw [← hZ, ← hbz])
    clear hby hbz
    clear hX hY hZ r1 r2 r3 r4 hb
    go_enter Tryz.func88, Tryz.ntmps88
    have kr_c0 := kr.here.cell 0 _ rfl
    have kr_c1 := kr.here.cell 1 _ rfl
    have kr_c2 := kr.here.cell 2 _ rfl
    go_wp2_with fail
    clear kr_c0 kr_c1 kr_c2
    refine ((implRatRound_any _ r m _ hz (OQr.out _ bb0) (HS.out.below bb0)).mono fun _ _ h => postSb_is ER.out h).mono ?_
    rintro e w1 ⟨ux, Sx, rfl, ox, lx, b1⟩
    obtain ⟨Ax, cx, rfl⟩ := ownS_form ox.here
    have bb1 := Below.next bb0 b1
    replace kr := kr.below b1
    replace ko := ko.below b1
    replace kp := kp.below b1
    have kx := box_new (w1) #[.bool X.1, .slice Ax X.2.length cx] 29
    have alx := below_al (Below.refl (w1).heap.size (w1)) (.cells #[.bool X.1, .slice Ax X.2.length cx] 29)
    have bbx := Below.next bb1 alx
    replace kr := kr.below alx
    replace ko := ko.below alx
    replace kp := kp.below alx
    replace ox := ox.below alx
    have cko0 := ko.here.cell 0 _ rfl
    have fko0 := Lib.frozen_of_heap ko.here 0
    have cko1 := ko.here.cell 1 _ rfl
    have fko1 := Lib.frozen_of_heap ko.here 1
    have ckp0 := kp.here.cell 0 _ rfl
    have fkp0 := Lib.frozen_of_heap kp.here 0
    have ckp1 := kp.here.cell 1 _ rfl
    have fkp1 := Lib.frozen_of_heap kp.here 1
    have ckp2 := kp.here.cell 2 _ rfl
    have fkp2 := Lib.frozen_of_heap kp.here 2
    go_wp2
    refine bodyPost_ret (v := .tuple #[.agg #[.bool false, .slice none 0 0], .agg #[.bool false, .slice none 0 0, .slice none 0 0], .bool false]) (by simp [results, Tryz.results88, go_sem, cko0, cko1, ckp0, ckp1, ckp2]) rfl ?_
    rw [HV.out.1, HV.out.2.1, HV.out.2.2]
    first | exact newSQb_zero bbx | exact newSQb_zero (below_set3 (below_set2 bbx (by omega)) (by omega))
end Go.Proofs.YtofehcpapdlcnabGreatDoor

namespace Go.Proofs.YtofehcpapdlcnabGreatDoor
open Go.RowKit

set_option maxHeartbeats 1000000 in
set_option maxRecDepth 100000 in
theorem specRatZero_any (w : World) : Calls Tryz.prog 52 #[] w (NewV (fun v => OwnQ v oneQ) w) := by
  have hs : (w.alloc (.cells #[.bool false, .slice none 0 0, .slice (some ⟨w.heap.size + 1, 0, none⟩) 1 1] 63)).heap.size = w.heap.size + 1 := by simp
  have od : ((w.alloc (.cells #[.bool false, .slice none 0 0, .slice (some ⟨w.heap.size + 1, 0, none⟩) 1 1] 63)).alloc (.cells #[.int .i64 1] 3)).ownsRow w.heap.size 3 1 (.slice (some ⟨w.heap.size + 1, 0, none⟩) 1 1) 1 [.int .i64 1] := by
    have h := World.ownsRow_lit (base := w.heap.size) (e := 3) (size := 1) (w.alloc (.cells #[.bool false, .slice none 0 0, .slice (some ⟨w.heap.size + 1, 0, none⟩) 1 1] 63)) #[.int .i64 1] 1 (by omega) (by unfold maxLen; omega) rfl
    rw [hs] at h
    exact h
  have bb := below_al (below_al (Below.refl w.heap.size w) (.cells #[.bool false, .slice none 0 0, .slice (some ⟨w.heap.size + 1, 0, none⟩) 1 1] 63)) (.cells #[.int .i64 1] 3)
  have HR := Lib.hid (show NewV (fun v => OwnQ v oneQ) w (.returned (.agg #[.bool false, .slice none 0 0, .slice (some ⟨w.heap.size + 1, 0, none⟩) 1 1])) _ from
    ⟨_, _, rfl, partsQ_at (x := oneQ) (World.ownsRow_nil _ 0 _ _) od (fun g hg => by cases hg), (fun g hg => by
      rcases List.mem_append.1 hg with hg | hg
      · cases hg
      · exact own_within od g hg), bb⟩)
  clear od bb hs
  go_enter Tryz.func52, Tryz.ntmps52
  go_wp2
  refine bodyPost_ret (v := .agg #[.bool false, .slice none 0 0, .slice (some ⟨w.heap.size + 1, 0, none⟩) 1 1]) (by simp [results, Tryz.results52, go_sem]) rfl ?_
  exact HR.out
set_option maxHeartbeats 2000000 in
set_option maxRecDepth 100000 in
theorem specRatMake_any (va vb : Value) (a b : SI) (w : World) (hza : szS a ≤ 1048576) (hzb : szS b ≤ 1048576) (ha : OwnS va a w) (hb : OwnS vb b w) :
    Calls Tryz.prog 143 #[va, vb] w (PostQb (makeQ a b).1 (makeQ a b).2 w) := by
  have Ha := Lib.hid ha
  obtain ⟨Aa, ca, rfl⟩ := ownS_form ha
  have OSa := Lib.hid (show ∀ W, Below w.heap.size w W → OwnS (.agg #[.bool a.1, .slice Aa a.2.length ca]) a W from fun W hb => OwnS.below Ha.out hb)
  have OIa := Lib.hid (show ∀ W, Below w.heap.size w W → OwnI (.slice Aa a.2.length ca) a.2 W from fun W hb => ownS_open (OSa.out W hb))
  clear ha
  have Hb := Lib.hid hb
  obtain ⟨Ab, cb, rfl⟩ := ownS_form hb
  have OSb := Lib.hid (show ∀ W, Below w.heap.size w W → OwnS (.agg #[.bool b.1, .slice Ab b.2.length cb]) b W from fun W hb => OwnS.below Hb.out hb)
  have OIb := Lib.hid (show ∀ W, Below w.heap.size w W → OwnI (.slice Ab b.2.length cb) b.2 W from fun W hb => ownS_open (OSb.out W hb))
  clear hb
  have hla : a.2.length ≤ 1048576 := by unfold szS szI at hza; omega
  have hlb : b.2.length ≤ 1048576 := by unfold szS szI at hzb; omega
  clear hza hzb
  have bb0 : Below w.heap.size w (((w.alloc (.cells #[.bool a.1, .slice Aa a.2.length ca] 29)).alloc (.cells #[.bool b.1, .slice Ab b.2.length cb] 29)).alloc (.cells #[.bool false, .slice none 0 0, .slice none 0 0] 63)) := below_al (below_al (below_al (Below.refl _ _) _) _) _
  have ka := (box_new w #[.bool a.1, .slice Aa a.2.length ca] 29).below (below_al (below_al (Below.refl _ _) (.cells #[.bool b.1, .slice Ab b.2.length cb] 29)) (.cells #[.bool false, .slice none 0 0, .slice none 0 0] 63))
  have kb := (box_new (w.alloc (.cells #[.bool a.1, .slice Aa a.2.length ca] 29)) #[.bool b.1, .slice Ab b.2.length cb] 29).below (below_al (Below.refl _ _) (.cells #[.bool false, .slice none 0 0, .slice none 0 0] 63))
  rw [show (w.alloc (.cells #[.bool a.1, .slice Aa a.2.length ca] 29)).heap.size = w.heap.size + 1 by simp] at kb
  have ko := (box_new ((w.alloc (.cells #[.bool a.1, .slice Aa a.2.length ca] 29)).alloc (.cells #[.bool b.1, .slice Ab b.2.length cb] 29)) #[.bool false, .slice none 0 0, .slice none 0 0] 63)
  rw [show ((w.alloc (.cells #[.bool a.1, .slice Aa a.2.length ca] 29)).alloc (.cells #[.bool b.1, .slice Ab b.2.length cb] 29)).heap.size = w.heap.size + 1 + 1 by simp] at ko
  go_enter Tryz.func143, Tryz.ntmps143
  have ka_c0 := ka.here.cell 0 _ rfl
  have ka_c1 := ka.here.cell 1 _ rfl
  go_wp2_with fail
  clear ka_c0 ka_c1
  refine (specIntOk_any _ a _ hla (OwnS.rd (OSa.out _ bb0))).mono ?_
  rintro e w1 ⟨rfl, b1⟩
  have bb1 := Below.next bb0 b1
  replace ka := ka.below b1
  replace kb := kb.below b1
  replace ko := ko.below b1
  by_cases oka : okS a = true
  · rw [oka]
    have HOa := Lib.hid oka
    clear oka
    have kb_c0 := kb.here.cell 0 _ rfl
    have kb_c1 := kb.here.cell 1 _ rfl
    go_wp2_with fail
    clear kb_c0 kb_c1
    refine (specIntOk_any _ b _ hlb (OwnS.rd (OSb.out _ bb1))).mono ?_
    rintro e w2 ⟨rfl, b2⟩
    have bb2 := Below.next bb1 b2
    replace ka := ka.below b2
    replace kb := kb.below b2
    replace ko := ko.below b2
    by_cases okb : okS b = true
    · rw [okb]
      have HOb := Lib.hid okb
      clear okb
      have HKO := Lib.hid (ko.lt (w.heap.size + 1 + 1) (by simp))
      have Ea := Lib.hid (natOk_limbs (okS_parts HOa.out).1)
      have Eb := Lib.hid (natOk_limbs (okS_parts HOb.out).1)
      obtain ⟨Na, hNa⟩ : ∃ Na, (nval a.2).toNat = Na := ⟨_, rfl⟩
      have Ea := Lib.hid (show a.2 = limbs Na by rw [← hNa]; exact natOk_limbs (okS_parts HOa.out).1)
      have La := Lib.hid (show (limbs Na).length ≤ 50 by rw [← Ea.out]; exact (natOk_parts (okS_parts HOa.out).1).2.1)
      obtain ⟨Nb, hNb⟩ : ∃ Nb, (nval b.2).toNat = Nb := ⟨_, rfl⟩
      have Eb := Lib.hid (show b.2 = limbs Nb by rw [← hNb]; exact natOk_limbs (okS_parts HOb.out).1)
      have Lb := Lib.hid (show (limbs Nb).length ≤ 50 by rw [← Eb.out]; exact (natOk_parts (okS_parts HOb.out).1).2.1)
      have HV := Lib.hid (show makeQ a b = lowQ (!(a.1 == b.1)) Na Nb by unfold makeQ; rw [if_pos ⟨HOa.out, HOb.out⟩, hNa, hNb]; rfl)
      clear hNa hNb
      have ka_c0 := ka.here.cell 0 _ rfl
      have ka_c1 := ka.here.cell 1 _ rfl
      have kb_c0 := kb.here.cell 0 _ rfl
      have kb_c1 := kb.here.cell 1 _ rfl
      go_wp2_with fail
      clear ka_c0 ka_c1 kb_c0 kb_c1
      refine (lowX_any _ _ _ a.2 b.2 Na Nb _ La.out Lb.out Ea.out Eb.out (OIa.out _ bb2) (OIb.out _ bb2)).mono ?_
      rintro e w3 ⟨uf, Sf, rfl, of, lf, b3⟩
      obtain ⟨Af, cf, Bf, df, rfl⟩ := ownQ_form of.here
      have bb3 := Below.next bb2 b3
      replace ka := ka.below b3
      replace kb := kb.below b3
      replace ko := ko.below b3
      have HW := Lib.hid (newQb_at (r := w.heap.size + 1 + 1) (b := (lowQ (!(a.1 == b.1)) Na Nb).2) of lf (by have := HKO.out; omega) (by omega) bb3)
      have cz0 := ko.here.cell 0 _ rfl
      have fz0 := Lib.frozen_of_heap ko.here 0
      have cz1 := ko.here.cell 1 _ rfl
      have fz1 := Lib.frozen_of_heap ko.here 1
      have cz2 := ko.here.cell 2 _ rfl
      have fz2 := Lib.frozen_of_heap ko.here 2
      clear of ko
      go_wp2
      refine bodyPost_ret (v := .tuple #[.agg #[.bool _, .slice Af _ cf, .slice Bf _ df], .bool _]) (by simp [results, Tryz.results143, go_sem, cz0, cz1, cz2]; exact ⟨⟨rfl, rfl, rfl⟩, rfl⟩) rfl ?_
      rw [HV.out]
      exact HW.out
    · have okb' : okS b = false := by simpa using okb
      have HV := Lib.hid (show makeQ a b = (zeroQ, false) by unfold makeQ; rw [if_neg (fun h => okb h.2)])
      rw [okb']
      clear okb okb'
      have ko_c0 := ko.here.cell 0 _ rfl
      have ko_c1 := ko.here.cell 1 _ rfl
      have ko_c2 := ko.here.cell 2 _ rfl
      have cz0 := ko.here.cell 0 _ rfl
      have fz0 := Lib.frozen_of_heap ko.here 0
      have cz1 := ko.here.cell 1 _ rfl
      have fz1 := Lib.frozen_of_heap ko.here 1
      have cz2 := ko.here.cell 2 _ rfl
      have fz2 := Lib.frozen_of_heap ko.here 2
      go_wp2
      refine bodyPost_ret (v := .tuple #[.agg #[.bool false, .slice none 0 0, .slice none 0 0], .bool false]) (by simp [results, Tryz.results143, go_sem, cz0, cz1, cz2]) rfl ?_
      rw [HV.out]
      first | exact newQb_zero _ bb2 | exact newQb_zero _ (below_set3 bb2 (by omega))
  · have oka' : okS a = false := by simpa using oka
    have HV := Lib.hid (show makeQ a b = (zeroQ, false) by unfold makeQ; rw [if_neg (fun h => oka h.1)])
    rw [oka']
    clear oka oka'
    have ko_c0 := ko.here.cell 0 _ rfl
    have ko_c1 := ko.here.cell 1 _ rfl
    have ko_c2 := ko.here.cell 2 _ rfl
    have cz0 := ko.here.cell 0 _ rfl
    have fz0 := Lib.frozen_of_heap ko.here 0
    have cz1 := ko.here.cell 1 _ rfl
    have fz1 := Lib.frozen_of_heap ko.here 1
    have cz2 := ko.here.cell 2 _ rfl
    have fz2 := Lib.frozen_of_heap ko.here 2
    go_wp2
    refine bodyPost_ret (v := .tuple #[.agg #[.bool false, .slice none 0 0, .slice none 0 0], .bool false]) (by simp [results, Tryz.results143, go_sem, cz0, cz1, cz2]) rfl ?_
    rw [HV.out]
    first | exact newQb_zero _ bb1 | exact newQb_zero _ (below_set3 bb1 (by omega))
set_option maxHeartbeats 2000000 in
set_option maxRecDepth 100000 in
theorem specRatInt_any (va : Value) (a : SI) (w : World) (hza : szS a ≤ 1048576) (ha : OwnS va a w) :
    Calls Tryz.prog 113 #[va] w (PostQb (makeQ a (ofZ 1)).1 (makeQ a (ofZ 1)).2 w) := by
  have Ha := Lib.hid ha
  obtain ⟨Aa, ca, rfl⟩ := ownS_form ha
  have OSa := Lib.hid (show ∀ W, Below w.heap.size w W → OwnS (.agg #[.bool a.1, .slice Aa a.2.length ca]) a W from fun W hb => OwnS.below Ha.out hb)
  have OIa := Lib.hid (show ∀ W, Below w.heap.size w W → OwnI (.slice Aa a.2.length ca) a.2 W from fun W hb => ownS_open (OSa.out W hb))
  clear ha
  have bb0 : Below w.heap.size w ((w.alloc (.cells #[.bool a.1, .slice Aa a.2.length ca] 29)).alloc (.cells #[.bool false, .slice none 0 0, .slice none 0 0] 63)) := below_al (below_al (Below.refl _ _) _) _
  have ka := (box_new w #[.bool a.1, .slice Aa a.2.length ca] 29).below (below_al (Below.refl _ _) (.cells #[.bool false, .slice none 0 0, .slice none 0 0] 63))
  have ko := (box_new (w.alloc (.cells #[.bool a.1, .slice Aa a.2.length ca] 29)) #[.bool false, .slice none 0 0, .slice none 0 0] 63)
  rw [show (w.alloc (.cells #[.bool a.1, .slice Aa a.2.length ca] 29)).heap.size = w.heap.size + 1 by simp] at ko
  have HKO := Lib.hid (ko.lt (w.heap.size + 1) (by simp))
  obtain ⟨Q, hQ⟩ : ∃ Q, makeQ a (ofZ 1) = Q := ⟨_, rfl⟩
  have EQ := Lib.hid hQ
  rw [hQ]
  clear hQ
  obtain ⟨W0, hW0⟩ : ∃ W0, W0 = ((w.alloc (.cells #[.bool a.1, .slice Aa a.2.length ca] 29)).alloc (.cells #[.bool false, .slice none 0 0, .slice none 0 0] 63)) := ⟨_, rfl⟩
  rw [← hW0] at bb0 ka ko HKO
  have HW0 := Lib.hid hW0
  clear hW0
  have hz0 := HKO.out
  go_enter Tryz.func113, Tryz.ntmps113
  have ka_c0 := ka.here.cell 0 _ rfl
  have ka_c1 := ka.here.cell 1 _ rfl
  go_wp2_with fail
  rw [← HW0.out]
  have HC0 := Lib.hid (show Chg [w.heap.size + 1] W0 W0.drew from (Chg.refl _ _).drew1)
  have HCr := Lib.hid (show Chg [w.heap.size + 1] W0 W0 from Chg.refl _ _)
  have KL := Lib.hid (show ∀ W, Chg [w.heap.size + 1] W0 W → W.cell? ⟨w.heap.size, 0, none⟩ = some (.bool a.1) ∧ W.cell? ⟨w.heap.size, 1, none⟩ = some (.slice Aa a.2.length ca) ∧ Hid (Chg [w.heap.size + 1] W0 W) from fun W hc => ⟨(ka.chg hc (fun i hi hm => by simp at hi hm; omega)).here.cell 0 _ rfl, (ka.chg hc (fun i hi hm => by simp at hi hm; omega)).here.cell 1 _ rfl, Lib.hid hc⟩)
  have BBF := Lib.hid (show ∀ W, Chg [w.heap.size + 1] W0 W → Below w.heap.size w W from fun W hc => below_chg bb0 hc bb0.size (fun i hi => by simp at hi; omega))
  clear ka_c0 ka_c1
  go_region_held3 (fun W => W.cell? ⟨w.heap.size, 0, none⟩ = some (.bool a.1) ∧ W.cell? ⟨w.heap.size, 1, none⟩ = some (.slice Aa a.2.length ca) ∧ Hid (Chg [w.heap.size + 1] W0 W))
    ((refine KL.out _ ?_; (first | exact HC2.out | exact HC1.out | exact HCr.out | exact HC0.out | exact HC2.out.drew1 | exact HC1.out.drew1 | exact HCr.out.drew1 | exact HC0.out.drew1 | exact HC2.out.trans (Chg.of_below (below_al (Below.refl _ _) _)) | exact HC1.out.trans (Chg.of_below (below_al (Below.refl _ _) _)) | exact HCr.out.trans (Chg.of_below (below_al (Below.refl _ _) _)) | exact HC0.out.trans (Chg.of_below (below_al (Below.refl _ _) _)) | exact (Chg.setCell HC2.out (by simp) _) | exact (Chg.setCell (Chg.setCell HC2.out (by simp) _) (by simp) _) | exact (Chg.setCell (Chg.setCell (Chg.setCell HC2.out (by simp) _) (by simp) _) (by simp) _) | fail)))
    (first
      | (go_at_call 48; (have hBB := (‹_ ∧ _ ∧ Hid (Chg [w.heap.size + 1] W0 _)›).2.2); (with_reducible refine ((specIntOf_any 1 _ (by decide) (by decide)).mono fun _ _ h => NewS.newV h).mono ?_); rintro e w1 ⟨ui, Si, rfl, oi, li, b1⟩; have HC1 := Lib.hid (hBB.out.trans (Chg.of_below b1)); (have ko_1 := At.below (by first | exact ko | exact At.below ko (below_al (Below.refl _ _) _) | exact At.below (At.below ko (below_al (Below.refl _ _) _)) (below_al (Below.refl _ _) _) | exact At.move ko (fun _ _ => rfl) (Nat.le_refl _)) b1); obtain ⟨Ai, ci, rfl⟩ := ownS_form oi.here; have HBZ1 := Lib.hid hBB.out.size; clear hBB)
      | (go_at_call 143; (have hBB := (‹_ ∧ _ ∧ Hid (Chg [w.heap.size + 1] W0 _)›).2.2); (with_reducible refine ((specRatMake_any _ _ a (ofZ 1) _ hza one_szS (OSa.out _ (BBF.out _ hBB.out)) (At.here (by first | exact oi | exact At.below oi (below_al (Below.refl _ _) _) | exact At.below (At.below oi (below_al (Below.refl _ _) _)) (below_al (Below.refl _ _) _) | exact At.move oi (fun _ _ => rfl) (Nat.le_refl _)))).mono fun _ _ h => postQb_eq EQ.out h).mono ?_); rintro e w2 ⟨uf, Sf, rfl, of, lf, b2⟩; have HC2 := Lib.hid (hBB.out.trans (Chg.of_below b2)); (have ko_2 := At.below (by first | exact ko_1 | exact At.below ko_1 (below_al (Below.refl _ _) _) | exact At.below (At.below ko_1 (below_al (Below.refl _ _) _)) (below_al (Below.refl _ _) _) | exact At.move ko_1 (fun _ _ => rfl) (Nat.le_refl _)) b2); (have oi_2 := At.below (by first | exact oi | exact At.below oi (below_al (Below.refl _ _) _) | exact At.below (At.below oi (below_al (Below.refl _ _) _)) (below_al (Below.refl _ _) _) | exact At.move oi (fun _ _ => rfl) (Nat.le_refl _)) b2); obtain ⟨Af, cf, Bf, df, rfl⟩ := ownQ_form of.here; have cz0 := ko_2.here.cell 0 _ rfl; have fz0 := Lib.frozen_of_heap ko_2.here 0; have cz1 := ko_2.here.cell 1 _ rfl; have fz1 := Lib.frozen_of_heap ko_2.here 1; have cz2 := ko_2.here.cell 2 _ rfl; have fz2 := Lib.frozen_of_heap ko_2.here 2; have HBZ2 := Lib.hid hBB.out.size; clear hBB))
  have bb2 := BBF.out _ HC2.out
  replace ka := ka.chg HC2.out (fun i hi hm => by simp at hi hm; omega)
  replace ko := ko_2
  have oi := oi_2
  have HW := Lib.hid (newQb_at (r := w.heap.size + 1) (b := Q.2) of lf (by have := HBZ2.out; omega) (by omega) bb2)
  clear of ko ka oi
  go_wp2
  refine bodyPost_ret (v := .tuple #[.agg #[.bool _, .slice Af _ cf, .slice Bf _ df], .bool _]) (by simp [results, Tryz.results113, go_sem, cz0, cz1, cz2]; exact ⟨⟨rfl, rfl, rfl⟩, rfl⟩) rfl ?_
  exact HW.out
set_option maxHeartbeats 2000000 in
set_option maxRecDepth 100000 in
theorem specRatCmp_any (vr : Value) (vs : Value) (r s : QI) (w : World) (hzr : szQ r ≤ 1048576) (hzs : szQ s ≤ 1048576) (hr : OwnQ vr r w) (hs : OwnQ vs s w) :
    Calls Tryz.prog 50 #[vr, vs] w (Postn (cmpQ r s) w) := by
  have Hr := Lib.hid hr
  obtain ⟨Ar, cr, Br, dr, rfl⟩ := ownQ_form hr
  have OQr := Lib.hid (show ∀ W, Below w.heap.size w W → OwnQ (.agg #[.bool r.1.1, .slice Ar r.1.2.length cr, .slice Br r.2.length dr]) r W from fun W hb => OwnQ.below Hr.out hb)
  have OUr := Lib.hid (show ∀ W, Below w.heap.size w W → OwnI (.slice Ar r.1.2.length cr) r.1.2 W from fun W hb => (ownQ_open (OQr.out W hb)).2.1)
  have ODr := Lib.hid (show ∀ W, Below w.heap.size w W → OwnI (.slice Br r.2.length dr) r.2 W from fun W hb => (ownQ_open (OQr.out W hb)).2.2.1)
  have OSr := Lib.hid (show ∀ W, Below w.heap.size w W → OwnS (.agg #[.bool r.1.1, .slice Ar r.1.2.length cr]) r.1 W from fun W hb => OwnS.mk (OUr.out W hb))
  clear hr
  have Hs := Lib.hid hs
  obtain ⟨As, cs, Bs, ds, rfl⟩ := ownQ_form hs
  have OQs := Lib.hid (show ∀ W, Below w.heap.size w W → OwnQ (.agg #[.bool s.1.1, .slice As s.1.2.length cs, .slice Bs s.2.length ds]) s W from fun W hb => OwnQ.below Hs.out hb)
  have OUs := Lib.hid (show ∀ W, Below w.heap.size w W → OwnI (.slice As s.1.2.length cs) s.1.2 W from fun W hb => (ownQ_open (OQs.out W hb)).2.1)
  have ODs := Lib.hid (show ∀ W, Below w.heap.size w W → OwnI (.slice Bs s.2.length ds) s.2 W from fun W hb => (ownQ_open (OQs.out W hb)).2.2.1)
  have OSs := Lib.hid (show ∀ W, Below w.heap.size w W → OwnS (.agg #[.bool s.1.1, .slice As s.1.2.length cs]) s.1 W from fun W hb => OwnS.mk (OUs.out W hb))
  clear hs
  have hlr := szQ_len hzr
  have hl1r := hlr.1
  have hl2r := hlr.2
  clear hlr
  have hls := szQ_len hzs
  have hl1s := hls.1
  have hl2s := hls.2
  clear hls
  have bb0 : Below w.heap.size w ((w.alloc (.cells #[.bool r.1.1, .slice Ar r.1.2.length cr, .slice Br r.2.length dr] 63)).alloc (.cells #[.bool s.1.1, .slice As s.1.2.length cs, .slice Bs s.2.length ds] 63)) := below_al (below_al (Below.refl _ _) _) _
  have kr := (box_new w #[.bool r.1.1, .slice Ar r.1.2.length cr, .slice Br r.2.length dr] 63).below (below_al (Below.refl _ _) (.cells #[.bool s.1.1, .slice As s.1.2.length cs, .slice Bs s.2.length ds] 63))
  have ks := (box_new (w.alloc (.cells #[.bool r.1.1, .slice Ar r.1.2.length cr, .slice Br r.2.length dr] 63)) #[.bool s.1.1, .slice As s.1.2.length cs, .slice Bs s.2.length ds] 63)
  rw [show (w.alloc (.cells #[.bool r.1.1, .slice Ar r.1.2.length cr, .slice Br r.2.length dr] 63)).heap.size = w.heap.size + 1 by simp] at ks
  go_enter Tryz.func50, Tryz.ntmps50
  have kr_c0 := kr.here.cell 0 _ rfl
  have kr_c1 := kr.here.cell 1 _ rfl
  have kr_c2 := kr.here.cell 2 _ rfl
  go_wp2_with fail
  clear kr_c0 kr_c1 kr_c2
  refine (specRatOk_any _ r _ hzr (OQr.out _ bb0)).mono ?_
  rintro e w1 ⟨rfl, b1⟩
  have bb1 := Below.next bb0 b1
  replace kr := kr.below b1
  replace ks := ks.below b1
  by_cases okr : okQ r = true
  · rw [okr]
    have HOr := Lib.hid okr
    clear okr
    have ks_c0 := ks.here.cell 0 _ rfl
    have ks_c1 := ks.here.cell 1 _ rfl
    have ks_c2 := ks.here.cell 2 _ rfl
    go_wp2_with fail
    clear ks_c0 ks_c1 ks_c2
    refine (specRatOk_any _ s _ hzs (OQs.out _ bb1)).mono ?_
    rintro e w2 ⟨rfl, b2⟩
    have bb2 := Below.next bb1 b2
    replace kr := kr.below b2
    replace ks := ks.below b2
    by_cases oks : okQ s = true
    · rw [oks]
      have HOs := Lib.hid oks
      clear oks
      have Pr := parts_of HOr.out
      have Ps := parts_of HOs.out
      have HPr := Lib.hid Pr
      have HPs := Lib.hid Ps
      have hnr := Pr.n50
      have hns := Ps.n50
      have hdr := Pr.d50
      have hds := Ps.d50
      clear Pr Ps
      obtain ⟨X1, hEX1⟩ : ∃ X1, (nval (r.1.2) * nval (s.2)).toNat = X1 := ⟨_, rfl⟩
      have EX1 := Lib.hid hEX1
      have PX1 := Lib.hid (show X1 = topN r * denQ s by rw [← hEX1, mul_toNat (okS_parts HPr.out.okn).1 HPs.out.okd]; rfl)
      have LX1 := Lib.hid (show (limbs X1).length ≤ 36 by rw [PX1.out]; exact prod_len HPr.out.nlt HPs.out.dlt)
      clear hEX1
      obtain ⟨X2, hEX2⟩ : ∃ X2, (nval (s.1.2) * nval (r.2)).toNat = X2 := ⟨_, rfl⟩
      have EX2 := Lib.hid hEX2
      have PX2 := Lib.hid (show X2 = topN s * denQ r by rw [← hEX2, mul_toNat (okS_parts HPs.out.okn).1 HPr.out.okd]; rfl)
      have LX2 := Lib.hid (show (limbs X2).length ≤ 36 by rw [PX2.out]; exact prod_len HPs.out.nlt HPr.out.dlt)
      clear hEX2
      obtain ⟨P1, hEP1⟩ : ∃ P1, mkS r.1.1 (limbs X1) = P1 := ⟨_, rfl⟩
      have EP1 := Lib.hid hEP1
      have VP1 := Lib.hid (show okS P1 = true ∧ valS P1 = numQ r * denQ s ∧ P1.2.length ≤ 50 ∧ -(bp 36) < valS P1 ∧ valS P1 < bp 36 by
        rw [← hEP1, PX1.out]
        have h1 := cross_ofZ (n := r.1.1) (X := topN r) (Y := denQ s)
        have h2 := cross_val (n := r.1.1) HPr.out.nlt HPs.out.dlt
        have h3 := cross_lt (n := r.1.1) HPr.out.nlt HPs.out.dlt
        have h4 : valS (mkS r.1.1 (limbs (topN r * denQ s))) = numQ r * denQ s := by rw [h2, HPr.out.top]
        exact ⟨h1.2.1, h4, h1.2.2, by rw [h2]; exact h3.1, by rw [h2]; exact h3.2⟩)
      clear hEP1
      obtain ⟨P2, hEP2⟩ : ∃ P2, mkS s.1.1 (limbs X2) = P2 := ⟨_, rfl⟩
      have EP2 := Lib.hid hEP2
      have VP2 := Lib.hid (show okS P2 = true ∧ valS P2 = numQ s * denQ r ∧ P2.2.length ≤ 50 ∧ -(bp 36) < valS P2 ∧ valS P2 < bp 36 by
        rw [← hEP2, PX2.out]
        have h1 := cross_ofZ (n := s.1.1) (X := topN s) (Y := denQ r)
        have h2 := cross_val (n := s.1.1) HPs.out.nlt HPr.out.dlt
        have h3 := cross_lt (n := s.1.1) HPs.out.nlt HPr.out.dlt
        have h4 : valS (mkS s.1.1 (limbs (topN s * denQ r))) = numQ s * denQ r := by rw [h2, HPs.out.top]
        exact ⟨h1.2.1, h4, h1.2.2, by rw [h2]; exact h3.1, by rw [h2]; exact h3.2⟩)
      clear hEP2
      have HV := Lib.hid (show cmpQ r s = cmpS P1 P2 by unfold cmpQ cmpS; rw [if_pos ⟨HOr.out, HOs.out⟩, if_pos ⟨VP1.out.1, VP2.out.1⟩, VP1.out.2.1, VP2.out.2.1])
      have kr_c0 := kr.here.cell 0 _ rfl
      have kr_c1 := kr.here.cell 1 _ rfl
      have kr_c2 := kr.here.cell 2 _ rfl
      have ks_c0 := ks.here.cell 0 _ rfl
      have ks_c1 := ks.here.cell 1 _ rfl
      have ks_c2 := ks.here.cell 2 _ rfl
      go_wp2_with fail
      have HC0 := Lib.hid (show Chg [] w2 w2.drew from (Chg.refl _ _).drew1)
      have HCr := Lib.hid (show Chg [] w2 w2 from Chg.refl _ _)
      have KL := Lib.hid (show ∀ W, Chg [] w2 W → W.cell? ⟨w.heap.size, 0, none⟩ = some (.bool r.1.1) ∧ W.cell? ⟨w.heap.size, 1, none⟩ = some (.slice Ar r.1.2.length cr) ∧ W.cell? ⟨w.heap.size, 2, none⟩ = some (.slice Br r.2.length dr) ∧ W.cell? ⟨w.heap.size + 1, 0, none⟩ = some (.bool s.1.1) ∧ W.cell? ⟨w.heap.size + 1, 1, none⟩ = some (.slice As s.1.2.length cs) ∧ W.cell? ⟨w.heap.size + 1, 2, none⟩ = some (.slice Bs s.2.length ds) ∧ Hid (Chg [] w2 W) from fun W hc => ⟨(kr.chg hc (fun i hi hm => by simp at hm)).here.cell 0 _ rfl, (kr.chg hc (fun i hi hm => by simp at hm)).here.cell 1 _ rfl, (kr.chg hc (fun i hi hm => by simp at hm)).here.cell 2 _ rfl, (ks.chg hc (fun i hi hm => by simp at hm)).here.cell 0 _ rfl, (ks.chg hc (fun i hi hm => by simp at hm)).here.cell 1 _ rfl, (ks.chg hc (fun i hi hm => by simp at hm)).here.cell 2 _ rfl, Lib.hid hc⟩)
      have BBF := Lib.hid (show ∀ W, Chg [] w2 W → Below w.heap.size w W from fun W hc => below_chg bb2 hc bb2.size (fun i hi => by simp at hi))
      clear kr_c0 kr_c1 kr_c2 ks_c0 ks_c1 ks_c2
      go_region_held3 (fun W => W.cell? ⟨w.heap.size, 0, none⟩ = some (.bool r.1.1) ∧ W.cell? ⟨w.heap.size, 1, none⟩ = some (.slice Ar r.1.2.length cr) ∧ W.cell? ⟨w.heap.size, 2, none⟩ = some (.slice Br r.2.length dr) ∧ W.cell? ⟨w.heap.size + 1, 0, none⟩ = some (.bool s.1.1) ∧ W.cell? ⟨w.heap.size + 1, 1, none⟩ = some (.slice As s.1.2.length cs) ∧ W.cell? ⟨w.heap.size + 1, 2, none⟩ = some (.slice Bs s.2.length ds) ∧ Hid (Chg [] w2 W))
        ((refine KL.out _ ?_; (first | exact HC7.out | exact HC6.out | exact HC5.out | exact HC4.out | exact HC3.out | exact HCr.out | exact HC0.out | exact HC7.out.drew1 | exact HC6.out.drew1 | exact HC5.out.drew1 | exact HC4.out.drew1 | exact HC3.out.drew1 | exact HCr.out.drew1 | exact HC0.out.drew1 | exact HC7.out.trans (Chg.of_below (below_al (Below.refl _ _) _)) | exact HC6.out.trans (Chg.of_below (below_al (Below.refl _ _) _)) | exact HC5.out.trans (Chg.of_below (below_al (Below.refl _ _) _)) | exact HC4.out.trans (Chg.of_below (below_al (Below.refl _ _) _)) | exact HC3.out.trans (Chg.of_below (below_al (Below.refl _ _) _)) | exact HCr.out.trans (Chg.of_below (below_al (Below.refl _ _) _)) | exact HC0.out.trans (Chg.of_below (below_al (Below.refl _ _) _)) | fail)))
        (first
          | (go_at_call 72; (have hBB := (‹_ ∧ _ ∧ _ ∧ _ ∧ _ ∧ _ ∧ Hid (Chg [] w2 _)›).2.2.2.2.2.2); (with_reducible refine (mulX_any _ _ (r.1.2) (s.2) X1 _ hnr hds ((okS_parts HPr.out.okn).1) (HPs.out.okd) EX1.out (OUr.out _ (BBF.out _ hBB.out)) (ODs.out _ (BBF.out _ hBB.out))).mono ?_); rintro e w3 ⟨um1, Sm1, rfl, om1, lm1, b3⟩; have HC3 := Lib.hid (hBB.out.trans (Chg.of_below b3)); obtain ⟨Em1, em1, rfl⟩ := own_len om1.here; have HBZ3 := Lib.hid hBB.out.size; clear hBB)
          | (go_at_call 82; (have hBB := (‹_ ∧ _ ∧ _ ∧ _ ∧ _ ∧ _ ∧ Hid (Chg [] w2 _)›).2.2.2.2.2.2); (with_reducible refine (makeX_any _ _ X1 P1 _ (Nat.le_trans LX1.out (by decide)) EP1.out (At.here (by first | exact om1 | exact At.below om1 (below_al (Below.refl _ _) _) | exact At.below (At.below om1 (below_al (Below.refl _ _) _)) (below_al (Below.refl _ _) _) | exact At.move om1 (fun _ _ => rfl) (Nat.le_refl _)))).mono ?_); rintro e w4 ⟨uf1, Sf1, rfl, of1, lf1, b4⟩; have HC4 := Lib.hid (hBB.out.trans (Chg.of_below b4)); (have om1_4 := At.below (by first | exact om1 | exact At.below om1 (below_al (Below.refl _ _) _) | exact At.below (At.below om1 (below_al (Below.refl _ _) _)) (below_al (Below.refl _ _) _) | exact At.move om1 (fun _ _ => rfl) (Nat.le_refl _)) b4); obtain ⟨Af1, cf1, rfl⟩ := ownS_form of1.here; have HBZ4 := Lib.hid hBB.out.size; clear hBB)
          | (go_at_call 72; (have hBB := (‹_ ∧ _ ∧ _ ∧ _ ∧ _ ∧ _ ∧ Hid (Chg [] w2 _)›).2.2.2.2.2.2); (with_reducible refine (mulX_any _ _ (s.1.2) (r.2) X2 _ hns hdr ((okS_parts HPs.out.okn).1) (HPr.out.okd) EX2.out (OUs.out _ (BBF.out _ hBB.out)) (ODr.out _ (BBF.out _ hBB.out))).mono ?_); rintro e w5 ⟨um2, Sm2, rfl, om2, lm2, b5⟩; have HC5 := Lib.hid (hBB.out.trans (Chg.of_below b5)); (have om1_5 := At.below (by first | exact om1_4 | exact At.below om1_4 (below_al (Below.refl _ _) _) | exact At.below (At.below om1_4 (below_al (Below.refl _ _) _)) (below_al (Below.refl _ _) _) | exact At.move om1_4 (fun _ _ => rfl) (Nat.le_refl _)) b5); (have of1_5 := At.below (by first | exact of1 | exact At.below of1 (below_al (Below.refl _ _) _) | exact At.below (At.below of1 (below_al (Below.refl _ _) _)) (below_al (Below.refl _ _) _) | exact At.move of1 (fun _ _ => rfl) (Nat.le_refl _)) b5); obtain ⟨Em2, em2, rfl⟩ := own_len om2.here; have HBZ5 := Lib.hid hBB.out.size; clear hBB)
          | (go_at_call 82; (have hBB := (‹_ ∧ _ ∧ _ ∧ _ ∧ _ ∧ _ ∧ Hid (Chg [] w2 _)›).2.2.2.2.2.2); (with_reducible refine (makeX_any _ _ X2 P2 _ (Nat.le_trans LX2.out (by decide)) EP2.out (At.here (by first | exact om2 | exact At.below om2 (below_al (Below.refl _ _) _) | exact At.below (At.below om2 (below_al (Below.refl _ _) _)) (below_al (Below.refl _ _) _) | exact At.move om2 (fun _ _ => rfl) (Nat.le_refl _)))).mono ?_); rintro e w6 ⟨uf2, Sf2, rfl, of2, lf2, b6⟩; have HC6 := Lib.hid (hBB.out.trans (Chg.of_below b6)); (have om1_6 := At.below (by first | exact om1_5 | exact At.below om1_5 (below_al (Below.refl _ _) _) | exact At.below (At.below om1_5 (below_al (Below.refl _ _) _)) (below_al (Below.refl _ _) _) | exact At.move om1_5 (fun _ _ => rfl) (Nat.le_refl _)) b6); (have of1_6 := At.below (by first | exact of1_5 | exact At.below of1_5 (below_al (Below.refl _ _) _) | exact At.below (At.below of1_5 (below_al (Below.refl _ _) _)) (below_al (Below.refl _ _) _) | exact At.move of1_5 (fun _ _ => rfl) (Nat.le_refl _)) b6); (have om2_6 := At.below (by first | exact om2 | exact At.below om2 (below_al (Below.refl _ _) _) | exact At.below (At.below om2 (below_al (Below.refl _ _) _)) (below_al (Below.refl _ _) _) | exact At.move om2 (fun _ _ => rfl) (Nat.le_refl _)) b6); obtain ⟨Af2, cf2, rfl⟩ := ownS_form of2.here; have HBZ6 := Lib.hid hBB.out.size; clear hBB)
          | (go_at_call 85; (have hBB := (‹_ ∧ _ ∧ _ ∧ _ ∧ _ ∧ _ ∧ Hid (Chg [] w2 _)›).2.2.2.2.2.2); (with_reducible refine (specIntCmp_any _ _ P1 P2 _ (Nat.le_trans VP1.out.2.2.1 (by decide)) (Nat.le_trans VP2.out.2.2.1 (by decide)) (At.here (by first | exact of1_6 | exact At.below of1_6 (below_al (Below.refl _ _) _) | exact At.below (At.below of1_6 (below_al (Below.refl _ _) _)) (below_al (Below.refl _ _) _) | exact At.move of1_6 (fun _ _ => rfl) (Nat.le_refl _))) (At.here (by first | exact of2 | exact At.below of2 (below_al (Below.refl _ _) _) | exact At.below (At.below of2 (below_al (Below.refl _ _) _)) (below_al (Below.refl _ _) _) | exact At.move of2 (fun _ _ => rfl) (Nat.le_refl _)))).mono ?_); rintro e w7 ⟨rfl, b7⟩; have HC7 := Lib.hid (hBB.out.trans (Chg.of_below b7)); (have om1_7 := At.below (by first | exact om1_6 | exact At.below om1_6 (below_al (Below.refl _ _) _) | exact At.below (At.below om1_6 (below_al (Below.refl _ _) _)) (below_al (Below.refl _ _) _) | exact At.move om1_6 (fun _ _ => rfl) (Nat.le_refl _)) b7); (have of1_7 := At.below (by first | exact of1_6 | exact At.below of1_6 (below_al (Below.refl _ _) _) | exact At.below (At.below of1_6 (below_al (Below.refl _ _) _)) (below_al (Below.refl _ _) _) | exact At.move of1_6 (fun _ _ => rfl) (Nat.le_refl _)) b7); (have om2_7 := At.below (by first | exact om2_6 | exact At.below om2_6 (below_al (Below.refl _ _) _) | exact At.below (At.below om2_6 (below_al (Below.refl _ _) _)) (below_al (Below.refl _ _) _) | exact At.move om2_6 (fun _ _ => rfl) (Nat.le_refl _)) b7); (have of2_7 := At.below (by first | exact of2 | exact At.below of2 (below_al (Below.refl _ _) _) | exact At.below (At.below of2 (below_al (Below.refl _ _) _)) (below_al (Below.refl _ _) _) | exact At.move of2 (fun _ _ => rfl) (Nat.le_refl _)) b7); have HBZ7 := Lib.hid hBB.out.size; clear hBB))
      have bb7 := BBF.out _ HC7.out
      replace kr := kr.chg HC7.out (fun i hi hm => by simp at hm)
      replace ks := ks.chg HC7.out (fun i hi hm => by simp at hm)
      have om1 := om1_7
      have of1 := of1_7
      have om2 := om2_7
      have of2 := of2_7
      go_wp2
      go_ret
      exact ⟨ret_int HV.out.symm, bb7⟩
    · have oks' : okQ s = false := by simpa using oks
      have HV := Lib.hid (show cmpQ r s = 0 by unfold cmpQ; rw [if_neg (fun h => oks h.2)])
      rw [oks']
      clear oks oks'
      go_wp2
      go_ret
      exact ⟨ret_int HV.out.symm, bb2⟩
  · have okr' : okQ r = false := by simpa using okr
    have HV := Lib.hid (show cmpQ r s = 0 by unfold cmpQ; rw [if_neg (fun h => okr h.1)])
    rw [okr']
    clear okr okr'
    go_wp2
    go_ret
    exact ⟨ret_int HV.out.symm, bb1⟩
set_option maxHeartbeats 2000000 in
set_option maxRecDepth 100000 in
theorem specRatSign_any (vr : Value) (r : QI) (w : World) (hzr : szQ r ≤ 1048576) (hr : OwnQ vr r w) :
    Calls Tryz.prog 49 #[vr] w (Postn (cmpQ r oneQ) w) := by
  have Hr := Lib.hid hr
  obtain ⟨Ar, cr, Br, dr, rfl⟩ := ownQ_form hr
  have OQr := Lib.hid (show ∀ W, Below w.heap.size w W → OwnQ (.agg #[.bool r.1.1, .slice Ar r.1.2.length cr, .slice Br r.2.length dr]) r W from fun W hb => OwnQ.below Hr.out hb)
  have OUr := Lib.hid (show ∀ W, Below w.heap.size w W → OwnI (.slice Ar r.1.2.length cr) r.1.2 W from fun W hb => (ownQ_open (OQr.out W hb)).2.1)
  have ODr := Lib.hid (show ∀ W, Below w.heap.size w W → OwnI (.slice Br r.2.length dr) r.2 W from fun W hb => (ownQ_open (OQr.out W hb)).2.2.1)
  have OSr := Lib.hid (show ∀ W, Below w.heap.size w W → OwnS (.agg #[.bool r.1.1, .slice Ar r.1.2.length cr]) r.1 W from fun W hb => OwnS.mk (OUr.out W hb))
  clear hr
  have bb0 : Below w.heap.size w (w.alloc (.cells #[.bool r.1.1, .slice Ar r.1.2.length cr, .slice Br r.2.length dr] 63)) := below_al (Below.refl _ _) _
  have kr := (box_new w #[.bool r.1.1, .slice Ar r.1.2.length cr, .slice Br r.2.length dr] 63)
  obtain ⟨W0, hW0⟩ : ∃ W0, W0 = (w.alloc (.cells #[.bool r.1.1, .slice Ar r.1.2.length cr, .slice Br r.2.length dr] 63)) := ⟨_, rfl⟩
  rw [← hW0] at bb0 kr
  have HW0 := Lib.hid hW0
  clear hW0
  obtain ⟨z, hz⟩ : ∃ z, cmpQ r oneQ = z := ⟨_, rfl⟩
  have EZ := Lib.hid hz
  rw [hz]
  clear hz
  go_enter Tryz.func49, Tryz.ntmps49
  have kr_c0 := kr.here.cell 0 _ rfl
  have kr_c1 := kr.here.cell 1 _ rfl
  have kr_c2 := kr.here.cell 2 _ rfl
  go_wp2_with fail
  rw [← HW0.out]
  have HC0 := Lib.hid (show Chg [] W0 W0.drew from (Chg.refl _ _).drew1)
  have HCr := Lib.hid (show Chg [] W0 W0 from Chg.refl _ _)
  have KL := Lib.hid (show ∀ W, Chg [] W0 W → W.cell? ⟨w.heap.size, 0, none⟩ = some (.bool r.1.1) ∧ W.cell? ⟨w.heap.size, 1, none⟩ = some (.slice Ar r.1.2.length cr) ∧ W.cell? ⟨w.heap.size, 2, none⟩ = some (.slice Br r.2.length dr) ∧ Hid (Chg [] W0 W) from fun W hc => ⟨(kr.chg hc (fun i hi hm => by simp at hm)).here.cell 0 _ rfl, (kr.chg hc (fun i hi hm => by simp at hm)).here.cell 1 _ rfl, (kr.chg hc (fun i hi hm => by simp at hm)).here.cell 2 _ rfl, Lib.hid hc⟩)
  have BBF := Lib.hid (show ∀ W, Chg [] W0 W → Below w.heap.size w W from fun W hc => below_chg bb0 hc bb0.size (fun i hi => by simp at hi))
  clear kr_c0 kr_c1 kr_c2
  go_region_held3 (fun W => W.cell? ⟨w.heap.size, 0, none⟩ = some (.bool r.1.1) ∧ W.cell? ⟨w.heap.size, 1, none⟩ = some (.slice Ar r.1.2.length cr) ∧ W.cell? ⟨w.heap.size, 2, none⟩ = some (.slice Br r.2.length dr) ∧ Hid (Chg [] W0 W))
    ((refine KL.out _ ?_; (first | exact HC2.out | exact HC1.out | exact HCr.out | exact HC0.out | exact HC2.out.drew1 | exact HC1.out.drew1 | exact HCr.out.drew1 | exact HC0.out.drew1 | exact HC2.out.trans (Chg.of_below (below_al (Below.refl _ _) _)) | exact HC1.out.trans (Chg.of_below (below_al (Below.refl _ _) _)) | exact HCr.out.trans (Chg.of_below (below_al (Below.refl _ _) _)) | exact HC0.out.trans (Chg.of_below (below_al (Below.refl _ _) _)) | fail)))
    (first
      | (go_at_call 52; (have hBB := (‹_ ∧ _ ∧ _ ∧ Hid (Chg [] W0 _)›).2.2.2); (with_reducible refine (specRatZero_any _).mono ?_); rintro e w1 ⟨uz, Sz, rfl, oz, lz, b1⟩; have HC1 := Lib.hid (hBB.out.trans (Chg.of_below b1)); obtain ⟨Az, cz, Bz, dz, rfl⟩ := ownQ_form oz.here; have HBZ1 := Lib.hid hBB.out.size; clear hBB)
      | (go_at_call 50; (have hBB := (‹_ ∧ _ ∧ _ ∧ Hid (Chg [] W0 _)›).2.2.2); (with_reducible refine ((specRatCmp_any _ _ r oneQ _ hzr (by decide) (OQr.out _ (BBF.out _ hBB.out)) (At.here (by first | exact oz | exact At.below oz (below_al (Below.refl _ _) _) | exact At.below (At.below oz (below_al (Below.refl _ _) _)) (below_al (Below.refl _ _) _) | exact At.move oz (fun _ _ => rfl) (Nat.le_refl _)))).mono fun _ _ h => postn_eq EZ.out h).mono ?_); rintro e w2 ⟨rfl, b2⟩; have HC2 := Lib.hid (hBB.out.trans (Chg.of_below b2)); (have oz_2 := At.below (by first | exact oz | exact At.below oz (below_al (Below.refl _ _) _) | exact At.below (At.below oz (below_al (Below.refl _ _) _)) (below_al (Below.refl _ _) _) | exact At.move oz (fun _ _ => rfl) (Nat.le_refl _)) b2); have HBZ2 := Lib.hid hBB.out.size; clear hBB))
  have bb2 := BBF.out _ HC2.out
  replace kr := kr.chg HC2.out (fun i hi hm => by simp at hm)
  have oz := oz_2
  go_wp2
  go_ret
  exact ⟨rfl, bb2⟩
end Go.Proofs.YtofehcpapdlcnabGreatDoor

namespace Go.Proofs.YtofehcpapdlcnabGreatDoor
open Go.RowKit

set_option maxHeartbeats 2000000 in
set_option maxRecDepth 100000 in
theorem specRatAdd_any (vr : Value) (vs : Value) (r s : QI) (w : World) (hzr : szQ r ≤ 1048576) (hzs : szQ s ≤ 1048576) (hr : OwnQ vr r w) (hs : OwnQ vs s w) :
    Calls Tryz.prog 144 #[vr, vs] w (PostQb (addQ r s).1 (addQ r s).2 w) := by
  have Hr := Lib.hid hr
  obtain ⟨Ar, cr, Br, dr, rfl⟩ := ownQ_form hr
  have OQr := Lib.hid (show ∀ W, Below w.heap.size w W → OwnQ (.agg #[.bool r.1.1, .slice Ar r.1.2.length cr, .slice Br r.2.length dr]) r W from fun W hb => OwnQ.below Hr.out hb)
  have OUr := Lib.hid (show ∀ W, Below w.heap.size w W → OwnI (.slice Ar r.1.2.length cr) r.1.2 W from fun W hb => (ownQ_open (OQr.out W hb)).2.1)
  have ODr := Lib.hid (show ∀ W, Below w.heap.size w W → OwnI (.slice Br r.2.length dr) r.2 W from fun W hb => (ownQ_open (OQr.out W hb)).2.2.1)
  have OSr := Lib.hid (show ∀ W, Below w.heap.size w W → OwnS (.agg #[.bool r.1.1, .slice Ar r.1.2.length cr]) r.1 W from fun W hb => OwnS.mk (OUr.out W hb))
  clear hr
  have Hs := Lib.hid hs
  obtain ⟨As, cs, Bs, ds, rfl⟩ := ownQ_form hs
  have OQs := Lib.hid (show ∀ W, Below w.heap.size w W → OwnQ (.agg #[.bool s.1.1, .slice As s.1.2.length cs, .slice Bs s.2.length ds]) s W from fun W hb => OwnQ.below Hs.out hb)
  have OUs := Lib.hid (show ∀ W, Below w.heap.size w W → OwnI (.slice As s.1.2.length cs) s.1.2 W from fun W hb => (ownQ_open (OQs.out W hb)).2.1)
  have ODs := Lib.hid (show ∀ W, Below w.heap.size w W → OwnI (.slice Bs s.2.length ds) s.2 W from fun W hb => (ownQ_open (OQs.out W hb)).2.2.1)
  have OSs := Lib.hid (show ∀ W, Below w.heap.size w W → OwnS (.agg #[.bool s.1.1, .slice As s.1.2.length cs]) s.1 W from fun W hb => OwnS.mk (OUs.out W hb))
  clear hs
  have hlr := szQ_len hzr
  have hl1r := hlr.1
  have hl2r := hlr.2
  clear hlr
  have hls := szQ_len hzs
  have hl1s := hls.1
  have hl2s := hls.2
  clear hls
  have bb0 : Below w.heap.size w (((w.alloc (.cells #[.bool r.1.1, .slice Ar r.1.2.length cr, .slice Br r.2.length dr] 63)).alloc (.cells #[.bool s.1.1, .slice As s.1.2.length cs, .slice Bs s.2.length ds] 63)).alloc (.cells #[.bool false, .slice none 0 0, .slice none 0 0] 63)) := below_al (below_al (below_al (Below.refl _ _) _) _) _
  have kr := (box_new w #[.bool r.1.1, .slice Ar r.1.2.length cr, .slice Br r.2.length dr] 63).below (below_al (below_al (Below.refl _ _) (.cells #[.bool s.1.1, .slice As s.1.2.length cs, .slice Bs s.2.length ds] 63)) (.cells #[.bool false, .slice none 0 0, .slice none 0 0] 63))
  have ks := (box_new (w.alloc (.cells #[.bool r.1.1, .slice Ar r.1.2.length cr, .slice Br r.2.length dr] 63)) #[.bool s.1.1, .slice As s.1.2.length cs, .slice Bs s.2.length ds] 63).below (below_al (Below.refl _ _) (.cells #[.bool false, .slice none 0 0, .slice none 0 0] 63))
  rw [show (w.alloc (.cells #[.bool r.1.1, .slice Ar r.1.2.length cr, .slice Br r.2.length dr] 63)).heap.size = w.heap.size + 1 by simp] at ks
  have ko := (box_new ((w.alloc (.cells #[.bool r.1.1, .slice Ar r.1.2.length cr, .slice Br r.2.length dr] 63)).alloc (.cells #[.bool s.1.1, .slice As s.1.2.length cs, .slice Bs s.2.length ds] 63)) #[.bool false, .slice none 0 0, .slice none 0 0] 63)
  rw [show ((w.alloc (.cells #[.bool r.1.1, .slice Ar r.1.2.length cr, .slice Br r.2.length dr] 63)).alloc (.cells #[.bool s.1.1, .slice As s.1.2.length cs, .slice Bs s.2.length ds] 63)).heap.size = w.heap.size + 1 + 1 by simp] at ko
  go_enter Tryz.func144, Tryz.ntmps144
  have kr_c0 := kr.here.cell 0 _ rfl
  have kr_c1 := kr.here.cell 1 _ rfl
  have kr_c2 := kr.here.cell 2 _ rfl
  go_wp2_with fail
  clear kr_c0 kr_c1 kr_c2
  refine (specRatOk_any _ r _ hzr (OQr.out _ bb0)).mono ?_
  rintro e w1 ⟨rfl, b1⟩
  have bb1 := Below.next bb0 b1
  replace kr := kr.below b1
  replace ks := ks.below b1
  replace ko := ko.below b1
  by_cases okr : okQ r = true
  · rw [okr]
    have HOr := Lib.hid okr
    clear okr
    have ks_c0 := ks.here.cell 0 _ rfl
    have ks_c1 := ks.here.cell 1 _ rfl
    have ks_c2 := ks.here.cell 2 _ rfl
    go_wp2_with fail
    clear ks_c0 ks_c1 ks_c2
    refine (specRatOk_any _ s _ hzs (OQs.out _ bb1)).mono ?_
    rintro e w2 ⟨rfl, b2⟩
    have bb2 := Below.next bb1 b2
    replace kr := kr.below b2
    replace ks := ks.below b2
    replace ko := ko.below b2
    by_cases oks : okQ s = true
    · rw [oks]
      have HOs := Lib.hid oks
      clear oks
      have Pr := parts_of HOr.out
      have Ps := parts_of HOs.out
      have HPr := Lib.hid Pr
      have HPs := Lib.hid Ps
      have hnr := Pr.n50
      have hns := Ps.n50
      have hdr := Pr.d50
      have hds := Ps.d50
      clear Pr Ps
      obtain ⟨X1, hEX1⟩ : ∃ X1, (nval (r.1.2) * nval (s.2)).toNat = X1 := ⟨_, rfl⟩
      have EX1 := Lib.hid hEX1
      have PX1 := Lib.hid (show X1 = topN r * denQ s by rw [← hEX1, mul_toNat (okS_parts HPr.out.okn).1 HPs.out.okd]; rfl)
      have LX1 := Lib.hid (show (limbs X1).length ≤ 36 by rw [PX1.out]; exact prod_len HPr.out.nlt HPs.out.dlt)
      clear hEX1
      obtain ⟨X2, hEX2⟩ : ∃ X2, (nval (s.1.2) * nval (r.2)).toNat = X2 := ⟨_, rfl⟩
      have EX2 := Lib.hid hEX2
      have PX2 := Lib.hid (show X2 = topN s * denQ r by rw [← hEX2, mul_toNat (okS_parts HPs.out.okn).1 HPr.out.okd]; rfl)
      have LX2 := Lib.hid (show (limbs X2).length ≤ 36 by rw [PX2.out]; exact prod_len HPs.out.nlt HPr.out.dlt)
      clear hEX2
      obtain ⟨X3, hEX3⟩ : ∃ X3, (nval (r.2) * nval (s.2)).toNat = X3 := ⟨_, rfl⟩
      have EX3 := Lib.hid hEX3
      have PX3 := Lib.hid (show X3 = denQ r * denQ s by rw [← hEX3, mul_toNat HPr.out.okd HPs.out.okd]; rfl)
      have LX3 := Lib.hid (show (limbs X3).length ≤ 36 by rw [PX3.out]; exact prod_len HPr.out.dlt HPs.out.dlt)
      clear hEX3
      obtain ⟨P1, hEP1⟩ : ∃ P1, mkS r.1.1 (limbs X1) = P1 := ⟨_, rfl⟩
      have EP1 := Lib.hid hEP1
      have VP1 := Lib.hid (show okS P1 = true ∧ valS P1 = numQ r * denQ s ∧ P1.2.length ≤ 50 ∧ -(bp 36) < valS P1 ∧ valS P1 < bp 36 by
        rw [← hEP1, PX1.out]
        have h1 := cross_ofZ (n := r.1.1) (X := topN r) (Y := denQ s)
        have h2 := cross_val (n := r.1.1) HPr.out.nlt HPs.out.dlt
        have h3 := cross_lt (n := r.1.1) HPr.out.nlt HPs.out.dlt
        have h4 : valS (mkS r.1.1 (limbs (topN r * denQ s))) = numQ r * denQ s := by rw [h2, HPr.out.top]
        exact ⟨h1.2.1, h4, h1.2.2, by rw [h2]; exact h3.1, by rw [h2]; exact h3.2⟩)
      clear hEP1
      obtain ⟨P2, hEP2⟩ : ∃ P2, mkS s.1.1 (limbs X2) = P2 := ⟨_, rfl⟩
      have EP2 := Lib.hid hEP2
      have VP2 := Lib.hid (show okS P2 = true ∧ valS P2 = numQ s * denQ r ∧ P2.2.length ≤ 50 ∧ -(bp 36) < valS P2 ∧ valS P2 < bp 36 by
        rw [← hEP2, PX2.out]
        have h1 := cross_ofZ (n := s.1.1) (X := topN s) (Y := denQ r)
        have h2 := cross_val (n := s.1.1) HPs.out.nlt HPr.out.dlt
        have h3 := cross_lt (n := s.1.1) HPs.out.nlt HPr.out.dlt
        have h4 : valS (mkS s.1.1 (limbs (topN s * denQ r))) = numQ s * denQ r := by rw [h2, HPs.out.top]
        exact ⟨h1.2.1, h4, h1.2.2, by rw [h2]; exact h3.1, by rw [h2]; exact h3.2⟩)
      clear hEP2
      obtain ⟨N, hN⟩ : ∃ N, ofZ (valS P1 + valS P2) = N := ⟨_, rfl⟩
      have EN := Lib.hid hN
      have b37 := bp37
      have SN := sum_ofZ (z := valS P1 + valS P2) (by have := VP1.out; have := VP2.out; omega) (by have := VP1.out; have := VP2.out; omega)
      obtain ⟨X4, hX4⟩ : ∃ X4, (valS P1 + valS P2).natAbs = X4 := ⟨_, rfl⟩
      rw [hN, hX4] at SN
      have N1 := Lib.hid (show N.1 = decide (numQ r * denQ s + numQ s * denQ r < 0) by rw [SN.1, VP1.out.2.1, VP2.out.2.1])
      have N2 := Lib.hid (show N.2 = limbs X4 by rw [SN.1])
      have L4 := Lib.hid SN.2
      have HV := Lib.hid (show addQ r s = lowQ N.1 X4 X3 by unfold addQ; rw [if_pos ⟨HOr.out, HOs.out⟩, N1.out, ← hX4, VP1.out.2.1, VP2.out.2.1, PX3.out])
      clear hN hX4 SN b37
      have hkr := kr.lt _ (List.mem_singleton.2 rfl)
      have hks := ks.lt _ (List.mem_singleton.2 rfl)
      have hko := ko.lt (w.heap.size + 1 + 1) (by simp)
      have kr_c0 := kr.here.cell 0 _ rfl
      have kr_c1 := kr.here.cell 1 _ rfl
      have kr_c2 := kr.here.cell 2 _ rfl
      have ks_c0 := ks.here.cell 0 _ rfl
      have ks_c1 := ks.here.cell 1 _ rfl
      have ks_c2 := ks.here.cell 2 _ rfl
      go_upto_region 7 with fail
      go_cut [6] (fun s wx => NewLocV 29 (fun v => OwnS v P1) w2 s wx)
      case first =>
        have HC0 := Lib.hid (show Chg [] w2 w2.drew from (Chg.refl _ _).drew1)
        have HCr := Lib.hid (show Chg [] w2 w2 from Chg.refl _ _)
        have KL := Lib.hid (show ∀ W, Chg [] w2 W → W.cell? ⟨w.heap.size, 0, none⟩ = some (.bool r.1.1) ∧ W.cell? ⟨w.heap.size, 1, none⟩ = some (.slice Ar r.1.2.length cr) ∧ W.cell? ⟨w.heap.size, 2, none⟩ = some (.slice Br r.2.length dr) ∧ W.cell? ⟨w.heap.size + 1, 0, none⟩ = some (.bool s.1.1) ∧ W.cell? ⟨w.heap.size + 1, 1, none⟩ = some (.slice As s.1.2.length cs) ∧ W.cell? ⟨w.heap.size + 1, 2, none⟩ = some (.slice Bs s.2.length ds) ∧ Hid (Chg [] w2 W) from fun W hc => ⟨(kr.chg hc (fun i hi hm => by simp at hm)).here.cell 0 _ rfl, (kr.chg hc (fun i hi hm => by simp at hm)).here.cell 1 _ rfl, (kr.chg hc (fun i hi hm => by simp at hm)).here.cell 2 _ rfl, (ks.chg hc (fun i hi hm => by simp at hm)).here.cell 0 _ rfl, (ks.chg hc (fun i hi hm => by simp at hm)).here.cell 1 _ rfl, (ks.chg hc (fun i hi hm => by simp at hm)).here.cell 2 _ rfl, Lib.hid hc⟩)
        have BBF := Lib.hid (show ∀ W, Chg [] w2 W → Below w.heap.size w W from fun W hc => below_chg bb2 hc bb2.size (fun i hi => by simp at hi))
        clear kr_c0 kr_c1 kr_c2 ks_c0 ks_c1 ks_c2
        go_region_held3 (fun W => W.cell? ⟨w.heap.size, 0, none⟩ = some (.bool r.1.1) ∧ W.cell? ⟨w.heap.size, 1, none⟩ = some (.slice Ar r.1.2.length cr) ∧ W.cell? ⟨w.heap.size, 2, none⟩ = some (.slice Br r.2.length dr) ∧ W.cell? ⟨w.heap.size + 1, 0, none⟩ = some (.bool s.1.1) ∧ W.cell? ⟨w.heap.size + 1, 1, none⟩ = some (.slice As s.1.2.length cs) ∧ W.cell? ⟨w.heap.size + 1, 2, none⟩ = some (.slice Bs s.2.length ds) ∧ Hid (Chg [] w2 W))
          ((refine KL.out _ ?_; (first | exact HC4.out | exact HC3.out | exact HCr.out | exact HC0.out | exact HC4.out.drew1 | exact HC3.out.drew1 | exact HCr.out.drew1 | exact HC0.out.drew1 | exact HC4.out.trans (Chg.of_below (below_al (Below.refl _ _) _)) | exact HC3.out.trans (Chg.of_below (below_al (Below.refl _ _) _)) | exact HCr.out.trans (Chg.of_below (below_al (Below.refl _ _) _)) | exact HC0.out.trans (Chg.of_below (below_al (Below.refl _ _) _)) | exact (Chg.setNew HC4.out (by first | exact HC4.out.size | exact HC3.out.size | exact HCr.out.size | exact HC0.out.size) _) | exact (Chg.setNew (Chg.setNew HC4.out (by first | exact HC4.out.size | exact HC3.out.size | exact HCr.out.size | exact HC0.out.size) _) (by first | exact HC4.out.size | exact HC3.out.size | exact HCr.out.size | exact HC0.out.size) _) | fail)))
          (first
            | (go_at_call 72; (have hBB := (‹_ ∧ _ ∧ _ ∧ _ ∧ _ ∧ _ ∧ Hid (Chg [] w2 _)›).2.2.2.2.2.2); (with_reducible refine (mulX_any _ _ (r.1.2) (s.2) X1 _ hnr hds ((okS_parts HPr.out.okn).1) (HPs.out.okd) EX1.out (OUr.out _ (BBF.out _ hBB.out)) (ODs.out _ (BBF.out _ hBB.out))).mono ?_); rintro e w3 ⟨um, Sm, rfl, om, lm, b3⟩; have HC3 := Lib.hid (hBB.out.trans (Chg.of_below b3)); obtain ⟨Em, em, rfl⟩ := own_len om.here; (first | (have early3 : At [w2.heap.size] (BoxAt w2.heap.size #[.bool false, .slice none 0 0] 29) w3 := At.below (box_new w2.drew _ _) b3) | (have early3 := At.below (box_new _ #[.bool false, .slice none 0 0] 29) b3) | (have early3 := At.below early2 b3) | skip); have HBZ3 := Lib.hid hBB.out.size; clear hBB)
            | (go_at_call 82; (have hBB := (‹_ ∧ _ ∧ _ ∧ _ ∧ _ ∧ _ ∧ Hid (Chg [] w2 _)›).2.2.2.2.2.2); (with_reducible refine (makeX_any _ _ X1 P1 _ (Nat.le_trans LX1.out (by decide)) EP1.out (At.here (by first | exact om | exact At.below om (below_al (Below.refl _ _) _) | exact At.below (At.below om (below_al (Below.refl _ _) _)) (below_al (Below.refl _ _) _) | exact At.move om (fun _ _ => rfl) (Nat.le_refl _)))).mono ?_); rintro e w4 ⟨uf, Sf, rfl, of, lf, b4⟩; have HC4 := Lib.hid (hBB.out.trans (Chg.of_below b4)); (have om_4 := At.below (by first | exact om | exact At.below om (below_al (Below.refl _ _) _) | exact At.below (At.below om (below_al (Below.refl _ _) _)) (below_al (Below.refl _ _) _) | exact At.move om (fun _ _ => rfl) (Nat.le_refl _)) b4); obtain ⟨Af, cf, rfl⟩ := ownS_form of.here; (first | have hbxg := At.below_lt (box_new _ #[.bool false, .slice none 0 0] 29) b4 | have hbxg := At.below_lt early3 b4 | skip); (try (have hbxf := hbxg.1; have HGB := Lib.hid hbxg.2; clear hbxg)); (try (have cz0 := hbxf.here.cell 0 _ rfl; have fz0 := Lib.frozen_of_heap hbxf.here 0; have cz1 := hbxf.here.cell 1 _ rfl; have fz1 := Lib.frozen_of_heap hbxf.here 1)); have HBZ4 := Lib.hid hBB.out.size; clear hBB))
        all_goals (go_wp2_with fail; go_meet; first | exact newLocV_last of lf HBZ4.out (below_of_chg HC4.out) | exact newLocV_early2 hbxf.here of lf (by first | exact HC3.out.size | exact HCr.out.size | exact HC0.out.size) HGB.out (below_of_chg HC4.out))
      rename World => w3
      clear kr_c0 kr_c1 kr_c2 ks_c0 ks_c1 ks_c2
      obtain ⟨ga, csa, Sa, rfl, ka, oa, na, la, b3⟩ := hcut
      obtain ⟨Aa, ca, ea⟩ := ownS_form oa.here
      injection ea with ea
      subst ea
      have bb3 := Below.next bb2 b3
      replace kr := kr.below b3
      replace ks := ks.below b3
      replace ko := ko.below b3
      have kr_c0 := kr.here.cell 0 _ rfl
      have kr_c1 := kr.here.cell 1 _ rfl
      have kr_c2 := kr.here.cell 2 _ rfl
      have ks_c0 := ks.here.cell 0 _ rfl
      have ks_c1 := ks.here.cell 1 _ rfl
      have ks_c2 := ks.here.cell 2 _ rfl
      go_upto_region 8 with fail
      go_cut [7] (fun s wx => NewLocV 29 (fun v => OwnS v P2) w3 s wx)
      case first =>
        have HC0 := Lib.hid (show Chg [] w3 w3.drew from (Chg.refl _ _).drew1)
        have HCr := Lib.hid (show Chg [] w3 w3 from Chg.refl _ _)
        have KL := Lib.hid (show ∀ W, Chg [] w3 W → W.cell? ⟨w.heap.size, 0, none⟩ = some (.bool r.1.1) ∧ W.cell? ⟨w.heap.size, 1, none⟩ = some (.slice Ar r.1.2.length cr) ∧ W.cell? ⟨w.heap.size, 2, none⟩ = some (.slice Br r.2.length dr) ∧ W.cell? ⟨w.heap.size + 1, 0, none⟩ = some (.bool s.1.1) ∧ W.cell? ⟨w.heap.size + 1, 1, none⟩ = some (.slice As s.1.2.length cs) ∧ W.cell? ⟨w.heap.size + 1, 2, none⟩ = some (.slice Bs s.2.length ds) ∧ Hid (Chg [] w3 W) from fun W hc => ⟨(kr.chg hc (fun i hi hm => by simp at hm)).here.cell 0 _ rfl, (kr.chg hc (fun i hi hm => by simp at hm)).here.cell 1 _ rfl, (kr.chg hc (fun i hi hm => by simp at hm)).here.cell 2 _ rfl, (ks.chg hc (fun i hi hm => by simp at hm)).here.cell 0 _ rfl, (ks.chg hc (fun i hi hm => by simp at hm)).here.cell 1 _ rfl, (ks.chg hc (fun i hi hm => by simp at hm)).here.cell 2 _ rfl, Lib.hid hc⟩)
        have BBF := Lib.hid (show ∀ W, Chg [] w3 W → Below w.heap.size w W from fun W hc => below_chg bb3 hc bb3.size (fun i hi => by simp at hi))
        clear kr_c0 kr_c1 kr_c2 ks_c0 ks_c1 ks_c2
        go_region_held3 (fun W => W.cell? ⟨w.heap.size, 0, none⟩ = some (.bool r.1.1) ∧ W.cell? ⟨w.heap.size, 1, none⟩ = some (.slice Ar r.1.2.length cr) ∧ W.cell? ⟨w.heap.size, 2, none⟩ = some (.slice Br r.2.length dr) ∧ W.cell? ⟨w.heap.size + 1, 0, none⟩ = some (.bool s.1.1) ∧ W.cell? ⟨w.heap.size + 1, 1, none⟩ = some (.slice As s.1.2.length cs) ∧ W.cell? ⟨w.heap.size + 1, 2, none⟩ = some (.slice Bs s.2.length ds) ∧ Hid (Chg [] w3 W))
          ((refine KL.out _ ?_; (first | exact HC5.out | exact HC4.out | exact HCr.out | exact HC0.out | exact HC5.out.drew1 | exact HC4.out.drew1 | exact HCr.out.drew1 | exact HC0.out.drew1 | exact HC5.out.trans (Chg.of_below (below_al (Below.refl _ _) _)) | exact HC4.out.trans (Chg.of_below (below_al (Below.refl _ _) _)) | exact HCr.out.trans (Chg.of_below (below_al (Below.refl _ _) _)) | exact HC0.out.trans (Chg.of_below (below_al (Below.refl _ _) _)) | exact (Chg.setNew HC5.out (by first | exact HC5.out.size | exact HC4.out.size | exact HCr.out.size | exact HC0.out.size) _) | exact (Chg.setNew (Chg.setNew HC5.out (by first | exact HC5.out.size | exact HC4.out.size | exact HCr.out.size | exact HC0.out.size) _) (by first | exact HC5.out.size | exact HC4.out.size | exact HCr.out.size | exact HC0.out.size) _) | fail)))
          (first
            | (go_at_call 72; (have hBB := (‹_ ∧ _ ∧ _ ∧ _ ∧ _ ∧ _ ∧ Hid (Chg [] w3 _)›).2.2.2.2.2.2); (with_reducible refine (mulX_any _ _ (s.1.2) (r.2) X2 _ hns hdr ((okS_parts HPs.out.okn).1) (HPr.out.okd) EX2.out (OUs.out _ (BBF.out _ hBB.out)) (ODr.out _ (BBF.out _ hBB.out))).mono ?_); rintro e w4 ⟨um, Sm, rfl, om, lm, b4⟩; have HC4 := Lib.hid (hBB.out.trans (Chg.of_below b4)); obtain ⟨Em, em, rfl⟩ := own_len om.here; (first | (have early4 : At [w3.heap.size] (BoxAt w3.heap.size #[.bool false, .slice none 0 0] 29) w4 := At.below (box_new w3.drew _ _) b4) | (have early4 := At.below (box_new _ #[.bool false, .slice none 0 0] 29) b4) | (have early4 := At.below early3 b4) | skip); have HBZ4 := Lib.hid hBB.out.size; clear hBB)
            | (go_at_call 82; (have hBB := (‹_ ∧ _ ∧ _ ∧ _ ∧ _ ∧ _ ∧ Hid (Chg [] w3 _)›).2.2.2.2.2.2); (with_reducible refine (makeX_any _ _ X2 P2 _ (Nat.le_trans LX2.out (by decide)) EP2.out (At.here (by first | exact om | exact At.below om (below_al (Below.refl _ _) _) | exact At.below (At.below om (below_al (Below.refl _ _) _)) (below_al (Below.refl _ _) _) | exact At.move om (fun _ _ => rfl) (Nat.le_refl _)))).mono ?_); rintro e w5 ⟨uf, Sf, rfl, of, lf, b5⟩; have HC5 := Lib.hid (hBB.out.trans (Chg.of_below b5)); (have om_5 := At.below (by first | exact om | exact At.below om (below_al (Below.refl _ _) _) | exact At.below (At.below om (below_al (Below.refl _ _) _)) (below_al (Below.refl _ _) _) | exact At.move om (fun _ _ => rfl) (Nat.le_refl _)) b5); obtain ⟨Af, cf, rfl⟩ := ownS_form of.here; (first | have hbxg := At.below_lt (box_new _ #[.bool false, .slice none 0 0] 29) b5 | have hbxg := At.below_lt early4 b5 | skip); (try (have hbxf := hbxg.1; have HGB := Lib.hid hbxg.2; clear hbxg)); (try (have cz0 := hbxf.here.cell 0 _ rfl; have fz0 := Lib.frozen_of_heap hbxf.here 0; have cz1 := hbxf.here.cell 1 _ rfl; have fz1 := Lib.frozen_of_heap hbxf.here 1)); have HBZ5 := Lib.hid hBB.out.size; clear hBB))
        all_goals (go_wp2_with fail; go_meet; first | exact newLocV_last of lf HBZ5.out (below_of_chg HC5.out) | exact newLocV_early2 hbxf.here of lf (by first | exact HC4.out.size | exact HCr.out.size | exact HC0.out.size) HGB.out (below_of_chg HC5.out))
      rename World => w4
      clear kr_c0 kr_c1 kr_c2 ks_c0 ks_c1 ks_c2
      obtain ⟨gb, csb, Sb, rfl, kb, ob, nb, lb, b4⟩ := hcut
      obtain ⟨Ab, cb, eb⟩ := ownS_form ob.here
      injection eb with eb
      subst eb
      have bb4 := Below.next bb3 b4
      replace kr := kr.below b4
      replace ks := ks.below b4
      replace ko := ko.below b4
      replace ka := ka.below b4
      replace oa := oa.below b4
      have ka_c0 := ka.here.cell 0 _ rfl
      have ka_c1 := ka.here.cell 1 _ rfl
      have kb_c0 := kb.here.cell 0 _ rfl
      have kb_c1 := kb.here.cell 1 _ rfl
      go_wp2_with fail
      clear ka_c0 ka_c1 kb_c0 kb_c1
      refine (addX_any _ _ P1 P2 N _ VP1.out.1 VP2.out.1 EN.out oa.here ob.here).mono ?_
      rintro e w5 ⟨un, Sn, rfl, on, ln, b5⟩
      obtain ⟨An, cn, rfl⟩ := ownS_form on.here
      have bb5 := Below.next bb4 b5
      replace kr := kr.below b5
      replace ks := ks.below b5
      replace ko := ko.below b5
      replace ka := ka.below b5
      replace oa := oa.below b5
      replace kb := kb.below b5
      replace ob := ob.below b5
      have kn := box_new w5 #[.bool N.1, .slice An N.2.length cn] 29
      have bbx := Below.next bb5 (below_al (Below.refl w5.heap.size w5) (.cells #[.bool N.1, .slice An N.2.length cn] 29))
      have hko2 := ko.lt (w.heap.size + 1 + 1) (by simp)
      replace kr := kr.below (below_al (Below.refl w5.heap.size w5) (.cells #[.bool N.1, .slice An N.2.length cn] 29))
      replace ks := ks.below (below_al (Below.refl w5.heap.size w5) (.cells #[.bool N.1, .slice An N.2.length cn] 29))
      replace ko := ko.below (below_al (Below.refl w5.heap.size w5) (.cells #[.bool N.1, .slice An N.2.length cn] 29))
      replace on := on.below (below_al (Below.refl w5.heap.size w5) (.cells #[.bool N.1, .slice An N.2.length cn] 29))
      obtain ⟨Wn, hWn⟩ : ∃ Wn, Wn = w5.alloc (.cells #[.bool N.1, .slice An N.2.length cn] 29) := ⟨_, rfl⟩
      rw [← hWn] at kn bbx kr ks ko on
      have HWN := Lib.hid hWn
      have hWz : Wn.heap.size = w5.heap.size + 1 := by rw [hWn]; simp
      clear hWn
      have kr_c0 := kr.here.cell 0 _ rfl
      have kr_c1 := kr.here.cell 1 _ rfl
      have kr_c2 := kr.here.cell 2 _ rfl
      have ks_c0 := ks.here.cell 0 _ rfl
      have ks_c1 := ks.here.cell 1 _ rfl
      have ks_c2 := ks.here.cell 2 _ rfl
      have kn_c0 := kn.here.cell 0 _ rfl
      have kn_c1 := kn.here.cell 1 _ rfl
      go_wp2_with fail
      rw [← HWN.out]
      clear kr_c0 kr_c1 kr_c2 ks_c0 ks_c1 ks_c2 kn_c0 kn_c1
      have HC0 := Lib.hid (show Chg [w.heap.size + 1 + 1] Wn Wn.drew from (Chg.refl _ _).drew1)
      have HCr := Lib.hid (show Chg [w.heap.size + 1 + 1] Wn Wn from Chg.refl _ _)
      have KL := Lib.hid (show ∀ W, Chg [w.heap.size + 1 + 1] Wn W → W.cell? ⟨w.heap.size, 0, none⟩ = some (.bool r.1.1) ∧ W.cell? ⟨w.heap.size, 1, none⟩ = some (.slice Ar r.1.2.length cr) ∧ W.cell? ⟨w.heap.size, 2, none⟩ = some (.slice Br r.2.length dr) ∧ W.cell? ⟨w.heap.size + 1, 0, none⟩ = some (.bool s.1.1) ∧ W.cell? ⟨w.heap.size + 1, 1, none⟩ = some (.slice As s.1.2.length cs) ∧ W.cell? ⟨w.heap.size + 1, 2, none⟩ = some (.slice Bs s.2.length ds) ∧ W.cell? ⟨w5.heap.size, 0, none⟩ = some (.bool N.1) ∧ W.cell? ⟨w5.heap.size, 1, none⟩ = some (.slice An N.2.length cn) ∧ Hid (Chg [w.heap.size + 1 + 1] Wn W) from fun W hc => ⟨(kr.chg hc (fun i hi hm => by simp at hi hm; omega)).here.cell 0 _ rfl, (kr.chg hc (fun i hi hm => by simp at hi hm; omega)).here.cell 1 _ rfl, (kr.chg hc (fun i hi hm => by simp at hi hm; omega)).here.cell 2 _ rfl, (ks.chg hc (fun i hi hm => by simp at hi hm; omega)).here.cell 0 _ rfl, (ks.chg hc (fun i hi hm => by simp at hi hm; omega)).here.cell 1 _ rfl, (ks.chg hc (fun i hi hm => by simp at hi hm; omega)).here.cell 2 _ rfl, (kn.chg hc (fun i hi hm => by simp at hi hm; omega)).here.cell 0 _ rfl, (kn.chg hc (fun i hi hm => by simp at hi hm; omega)).here.cell 1 _ rfl, Lib.hid hc⟩)
      have BBF := Lib.hid (show ∀ W, Chg [w.heap.size + 1 + 1] Wn W → Below w.heap.size w W from fun W hc => below_chg bbx hc bbx.size (fun i hi => by simp at hi; omega))
      go_region_held3 (fun W => W.cell? ⟨w.heap.size, 0, none⟩ = some (.bool r.1.1) ∧ W.cell? ⟨w.heap.size, 1, none⟩ = some (.slice Ar r.1.2.length cr) ∧ W.cell? ⟨w.heap.size, 2, none⟩ = some (.slice Br r.2.length dr) ∧ W.cell? ⟨w.heap.size + 1, 0, none⟩ = some (.bool s.1.1) ∧ W.cell? ⟨w.heap.size + 1, 1, none⟩ = some (.slice As s.1.2.length cs) ∧ W.cell? ⟨w.heap.size + 1, 2, none⟩ = some (.slice Bs s.2.length ds) ∧ W.cell? ⟨w5.heap.size, 0, none⟩ = some (.bool N.1) ∧ W.cell? ⟨w5.heap.size, 1, none⟩ = some (.slice An N.2.length cn) ∧ Hid (Chg [w.heap.size + 1 + 1] Wn W))
        ((refine KL.out _ ?_; (first | exact HC7.out | exact HC6.out | exact HCr.out | exact HC0.out | exact HC7.out.drew1 | exact HC6.out.drew1 | exact HCr.out.drew1 | exact HC0.out.drew1 | exact HC7.out.trans (Chg.of_below (below_al (Below.refl _ _) _)) | exact HC6.out.trans (Chg.of_below (below_al (Below.refl _ _) _)) | exact HCr.out.trans (Chg.of_below (below_al (Below.refl _ _) _)) | exact HC0.out.trans (Chg.of_below (below_al (Below.refl _ _) _)) | exact (Chg.setCell HC7.out (by simp) _) | exact (Chg.setCell (Chg.setCell HC7.out (by simp) _) (by simp) _) | exact (Chg.setCell (Chg.setCell (Chg.setCell HC7.out (by simp) _) (by simp) _) (by simp) _) | fail)))
        (first
          | (go_at_call 72; (have hBB := (‹_ ∧ _ ∧ _ ∧ _ ∧ _ ∧ _ ∧ _ ∧ _ ∧ Hid (Chg [w.heap.size + 1 + 1] Wn _)›).2.2.2.2.2.2.2.2); (with_reducible refine (mulX_any _ _ (r.2) (s.2) X3 _ hdr hds (HPr.out.okd) (HPs.out.okd) EX3.out (ODr.out _ (BBF.out _ hBB.out)) (ODs.out _ (BBF.out _ hBB.out))).mono ?_); rintro e w6 ⟨um, Sm, rfl, om, lm, b6⟩; have HC6 := Lib.hid (hBB.out.trans (Chg.of_below b6)); (have ko_6 := At.below (by first | exact ko | exact At.below ko (below_al (Below.refl _ _) _) | exact At.below (At.below ko (below_al (Below.refl _ _) _)) (below_al (Below.refl _ _) _) | exact At.move ko (fun _ _ => rfl) (Nat.le_refl _)) b6); (have on_6 := At.below (by first | exact on | exact At.below on (below_al (Below.refl _ _) _) | exact At.below (At.below on (below_al (Below.refl _ _) _)) (below_al (Below.refl _ _) _) | exact At.move on (fun _ _ => rfl) (Nat.le_refl _)) b6); obtain ⟨Em, em, rfl⟩ := own_len om.here; have HBZ6 := Lib.hid hBB.out.size; clear hBB)
          | (go_at_call 71; (have hBB := (‹_ ∧ _ ∧ _ ∧ _ ∧ _ ∧ _ ∧ _ ∧ _ ∧ Hid (Chg [w.heap.size + 1 + 1] Wn _)›).2.2.2.2.2.2.2.2); (with_reducible refine (lowX_any _ _ _ N.2 (limbs X3) X4 X3 _ (Nat.le_trans L4.out (by decide)) (Nat.le_trans LX3.out (by decide)) N2.out rfl (ownS_open (At.here (by first | exact on_6 | exact At.below on_6 (below_al (Below.refl _ _) _) | exact At.below (At.below on_6 (below_al (Below.refl _ _) _)) (below_al (Below.refl _ _) _) | exact At.move on_6 (fun _ _ => rfl) (Nat.le_refl _)))) (At.here (by first | exact om | exact At.below om (below_al (Below.refl _ _) _) | exact At.below (At.below om (below_al (Below.refl _ _) _)) (below_al (Below.refl _ _) _) | exact At.move om (fun _ _ => rfl) (Nat.le_refl _)))).mono ?_); rintro e w7 ⟨uf, Sf, rfl, of, lf, b7⟩; have HC7 := Lib.hid (hBB.out.trans (Chg.of_below b7)); (have ko_7 := At.below (by first | exact ko_6 | exact At.below ko_6 (below_al (Below.refl _ _) _) | exact At.below (At.below ko_6 (below_al (Below.refl _ _) _)) (below_al (Below.refl _ _) _) | exact At.move ko_6 (fun _ _ => rfl) (Nat.le_refl _)) b7); (have on_7 := At.below (by first | exact on_6 | exact At.below on_6 (below_al (Below.refl _ _) _) | exact At.below (At.below on_6 (below_al (Below.refl _ _) _)) (below_al (Below.refl _ _) _) | exact At.move on_6 (fun _ _ => rfl) (Nat.le_refl _)) b7); (have om_7 := At.below (by first | exact om | exact At.below om (below_al (Below.refl _ _) _) | exact At.below (At.below om (below_al (Below.refl _ _) _)) (below_al (Below.refl _ _) _) | exact At.move om (fun _ _ => rfl) (Nat.le_refl _)) b7); obtain ⟨Af, cf, Bf, df, rfl⟩ := ownQ_form of.here; have cz0 := ko_7.here.cell 0 _ rfl; have fz0 := Lib.frozen_of_heap ko_7.here 0; have cz1 := ko_7.here.cell 1 _ rfl; have fz1 := Lib.frozen_of_heap ko_7.here 1; have cz2 := ko_7.here.cell 2 _ rfl; have fz2 := Lib.frozen_of_heap ko_7.here 2; have HBZ7 := Lib.hid hBB.out.size; clear hBB))
      have bb7 := BBF.out _ HC7.out
      replace kr := kr.chg HC7.out (fun i hi hm => by simp at hi hm; omega)
      replace ks := ks.chg HC7.out (fun i hi hm => by simp at hi hm; omega)
      replace ko := ko_7
      have on := on_7
      have om := om_7
      have HW := Lib.hid (newQb_at (r := w.heap.size + 1 + 1) (b := (lowQ N.1 X4 X3).2) of lf (by have := HBZ7.out; omega) (by omega) bb7)
      clear of ko kr ks kn on om
      go_wp2
      refine bodyPost_ret (v := .tuple #[.agg #[.bool _, .slice Af _ cf, .slice Bf _ df], .bool _]) (by simp [results, Tryz.results144, go_sem, cz0, cz1, cz2]; exact ⟨⟨rfl, rfl, rfl⟩, rfl⟩) rfl ?_
      rw [HV.out]
      exact HW.out
    · have oks' : okQ s = false := by simpa using oks
      have HV := Lib.hid (show addQ r s = (zeroQ, false) by unfold addQ; rw [if_neg (fun h => oks h.2)])
      rw [oks']
      clear oks oks'
      have ko_c0 := ko.here.cell 0 _ rfl
      have ko_c1 := ko.here.cell 1 _ rfl
      have ko_c2 := ko.here.cell 2 _ rfl
      have cz0 := ko.here.cell 0 _ rfl
      have fz0 := Lib.frozen_of_heap ko.here 0
      have cz1 := ko.here.cell 1 _ rfl
      have fz1 := Lib.frozen_of_heap ko.here 1
      have cz2 := ko.here.cell 2 _ rfl
      have fz2 := Lib.frozen_of_heap ko.here 2
      go_wp2
      refine bodyPost_ret (v := .tuple #[.agg #[.bool false, .slice none 0 0, .slice none 0 0], .bool false]) (by simp [results, Tryz.results144, go_sem, cz0, cz1, cz2]) rfl ?_
      rw [HV.out]
      first | exact newQb_zero _ bb2 | exact newQb_zero _ (below_set3 bb2 (by omega))
  · have okr' : okQ r = false := by simpa using okr
    have HV := Lib.hid (show addQ r s = (zeroQ, false) by unfold addQ; rw [if_neg (fun h => okr h.1)])
    rw [okr']
    clear okr okr'
    have ko_c0 := ko.here.cell 0 _ rfl
    have ko_c1 := ko.here.cell 1 _ rfl
    have ko_c2 := ko.here.cell 2 _ rfl
    have cz0 := ko.here.cell 0 _ rfl
    have fz0 := Lib.frozen_of_heap ko.here 0
    have cz1 := ko.here.cell 1 _ rfl
    have fz1 := Lib.frozen_of_heap ko.here 1
    have cz2 := ko.here.cell 2 _ rfl
    have fz2 := Lib.frozen_of_heap ko.here 2
    go_wp2
    refine bodyPost_ret (v := .tuple #[.agg #[.bool false, .slice none 0 0, .slice none 0 0], .bool false]) (by simp [results, Tryz.results144, go_sem, cz0, cz1, cz2]) rfl ?_
    rw [HV.out]
    first | exact newQb_zero _ bb1 | exact newQb_zero _ (below_set3 bb1 (by omega))
end Go.Proofs.YtofehcpapdlcnabGreatDoor
