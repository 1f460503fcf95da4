/-
  Chapter 7 of package impl: what its functions return.
  Chapter 8 of package impl: DecRat, RatDec, DecDiv, DecAt, DecLow.
  What every law of the seat needs: a call that returns true and changes nothing below the heap's old size meets the row's post, whatever its arguments are.
  Arguments, opened: slices of strings and of ints that came in read as lists.
  Arguments of type laws.Signed, opened.
  Arguments of type laws.Dec, opened.
  What a law needs whose row names one package-level variable, the sentinel impl.errZeroDivisor, and lists it.
  The law FnExactRatRound of chapter 7, walked: it returns true wherever both packages answer alike.
  Arguments of type laws.Rat, opened.
  The law FnExactRatFloor of chapter 7, walked: it returns true wherever both packages answer alike.
-/
import Derived.Deep.RegionHeld3
import Derived.Shelf.Abstract
import Derived.Test.YthfkdofnoomhaaaDoorRows
import Derived.WalkKit
import Derived.ProofKit
import Derived.OpenShut
import Derived.JoinedCond
import Derived.Lib.SmallJoins
import Derived.ChangeArms
import Derived.Test.YthfkdofnoomhaaaDoorCards
import Derived.Test.YthfkdofnoomhaaaDoorTie
import Derived.Deep.DeepHandedRow
import Derived.Stop.LaidErr
import Derived.Deep.DeepCutAuto
import Derived.Test.YthfkdofnoomhaaaDoorJA8
namespace Go.Proofs.YthfkdofnoomhaaaDoor
open Go.RowKit

theorem nat_lt50 {X : Nat} (h : (limbs X).length ≤ 19) : ((X + X : Nat) : Int) < bp 50 ∧ ((X + 1 : Nat) : Int) < bp 50 := by
  have h1 := nval_lt (limbs X) (limbs_digN X)
  rw [limbs_val] at h1
  have h2 : bp (limbs X).length ≤ bp 19 := bp_mono h
  have h3 : bp 20 ≤ bp 50 := bp_mono (by omega)
  have h4 : bp 20 = 1000000000 * bp 19 := rfl
  have := bp_pos 19
  omega
theorem cmpN_limbs {X Y : Nat} (hx : (limbs X).length ≤ 50) (hy : (limbs Y).length ≤ 50) : cmpN (limbs X) (limbs Y) = cmpI X Y := by
  unfold cmpN
  rw [if_pos ⟨limbs_okL _ hx, limbs_okL _ hy⟩, limbs_val, limbs_val]
theorem divN_rat {r : QI} (h : okQ r = true) : divN r.1.2 r.2 = (limbs (topN r / denQ r), limbs (topN r % denQ r)) := by
  have p := okQ_parts h
  unfold divN
  rw [if_pos ⟨(okS_parts p.1).1, p.2.1, p.2.2.1⟩, quot_of h, rest_of h]
theorem twoRows_eq {a b c d : List Int} {w w' : World} {e : Ending} (h : TwoRows a b w e w') (h1 : a = c) (h2 : b = d) : TwoRows c d w e w' := by subst h1 h2; exact h
theorem newI_eq {a b : List Int} {w w' : World} {e : Ending} (h : NewInts a w e w') (h1 : a = b) : NewInts b w e w' := by subst h1; exact h
set_option maxHeartbeats 2000000 in
set_option maxRecDepth 100000 in
theorem overHalf_any (Aq Ar Ad : Option Addr) (cq cr cd : Nat) (neg : Bool) (Q R D : Nat) (w : World) (_ : (limbs Q).length ≤ 50) (hrl : (limbs R).length ≤ 18) (hdl : (limbs D).length ≤ 18) (_ : OwnI (.slice Aq (limbs Q).length cq) (limbs Q) w) (or_ : OwnI (.slice Ar (limbs R).length cr) (limbs R) w) (od : OwnI (.slice Ad (limbs D).length cd) (limbs D) w) :
    Calls Tryd.prog 144 #[.agg #[.bool neg, .slice Aq (limbs Q).length cq, .slice Ar (limbs R).length cr, .slice Ad (limbs D).length cd]] w (Postn (cmpI ((R : Int) + R + 0) D) w) := by
  have Hr := Lib.hid (show ∀ W, Below w.heap.size w W → OwnI (.slice Ar (limbs R).length cr) (limbs R) W from fun W hb => OwnI.belowI or_ hb)
  have Hd := Lib.hid (show ∀ W, Below w.heap.size w W → OwnI (.slice Ad (limbs D).length cd) (limbs D) W from fun W hb => OwnI.belowI od hb)
  clear or_ od
  have bb0 : Below w.heap.size w (w.alloc (.cells #[.bool neg, .slice Aq (limbs Q).length cq, .slice Ar (limbs R).length cr, .slice Ad (limbs D).length cd] 153)) := below_al (Below.refl _ _) _
  have ks := (box_new w #[.bool neg, .slice Aq (limbs Q).length cq, .slice Ar (limbs R).length cr, .slice Ad (limbs D).length cd] 153)
  obtain ⟨z, hz⟩ : ∃ z, cmpI ((R : Int) + R + 0) D = z := ⟨_, rfl⟩
  have EA := Lib.hid (addN_small (nat_lt50 (X := R) (by omega)).1)
  have h2l : (limbs (R + R)).length ≤ 50 := limbs_length_le _ 50 (nat_lt50 (X := R) (by omega)).1
  have EZ := Lib.hid (show cmpN (limbs (R + R)) (limbs D) = z by rw [cmpN_limbs h2l (by omega), ← hz, Int.natCast_add, Int.add_zero])
  rw [hz]
  clear hz
  have HCM := Lib.hid (show ∀ (u v : Value) (W : World), OwnI u (limbs (R + R)) W → OwnI v (limbs D) W → Calls Tryd.prog 133 #[u, v] W (Postn z W) from fun u v W h1 h3 => (implNatCmp_any u v (limbs (R + R)) (limbs D) 0 _ 0 _ W (by omega) (by omega) (Nat.le_refl _) (Nat.le_refl _) h1.row h3.row).mono fun _ _ h => postn_eq EZ.out h)
  obtain ⟨W0, hW0⟩ : ∃ W0, W0 = (w.alloc (.cells #[.bool neg, .slice Aq (limbs Q).length cq, .slice Ar (limbs R).length cr, .slice Ad (limbs D).length cd] 153)) := ⟨_, rfl⟩
  rw [← hW0] at bb0 ks
  have HW0 := Lib.hid hW0
  clear hW0
  go_enter Tryd.func144, Tryd.ntmps144
  have ks_c0 := ks.here.cell 0 _ rfl
  have ks_c1 := ks.here.cell 1 _ rfl
  have ks_c2 := ks.here.cell 2 _ rfl
  have ks_c3 := ks.here.cell 3 _ rfl
  go_wp2_with fail
  rw [← HW0.out]
  have HC0 := Lib.hid (show Chg [] W0 W0.drew from (Chg.refl _ _).drew1)
  have HCr := Lib.hid (show Chg [] W0 W0 from Chg.refl _ _)
  have KL := Lib.hid (show ∀ W, Chg [] W0 W → W.cell? ⟨w.heap.size, 0, none⟩ = some (.bool neg) ∧ W.cell? ⟨w.heap.size, 1, none⟩ = some (.slice Aq (limbs Q).length cq) ∧ W.cell? ⟨w.heap.size, 2, none⟩ = some (.slice Ar (limbs R).length cr) ∧ W.cell? ⟨w.heap.size, 3, none⟩ = some (.slice Ad (limbs D).length cd) ∧ Hid (Chg [] W0 W) from fun W hc => ⟨(ks.chg hc (fun i hi hm => by simp at hm)).here.cell 0 _ rfl, (ks.chg hc (fun i hi hm => by simp at hm)).here.cell 1 _ rfl, (ks.chg hc (fun i hi hm => by simp at hm)).here.cell 2 _ rfl, (ks.chg hc (fun i hi hm => by simp at hm)).here.cell 3 _ rfl, Lib.hid hc⟩)
  have BBF := Lib.hid (show ∀ W, Chg [] W0 W → Below w.heap.size w W from fun W hc => below_chg bb0 hc bb0.size (fun i hi => by simp at hi))
  clear ks_c0 ks_c1 ks_c2 ks_c3
  go_region_held3 (fun W => W.cell? ⟨w.heap.size, 0, none⟩ = some (.bool neg) ∧ W.cell? ⟨w.heap.size, 1, none⟩ = some (.slice Aq (limbs Q).length cq) ∧ W.cell? ⟨w.heap.size, 2, none⟩ = some (.slice Ar (limbs R).length cr) ∧ W.cell? ⟨w.heap.size, 3, none⟩ = some (.slice Ad (limbs D).length cd) ∧ Hid (Chg [] W0 W))
    ((refine KL.out _ ?_; (first | exact HC2.out | exact HC1.out | exact HCr.out | exact HC0.out | exact HC2.out.drew1 | exact HC1.out.drew1 | exact HCr.out.drew1 | exact HC0.out.drew1 | exact HC2.out.trans (Chg.of_below (below_al (Below.refl _ _) _)) | exact HC1.out.trans (Chg.of_below (below_al (Below.refl _ _) _)) | exact HCr.out.trans (Chg.of_below (below_al (Below.refl _ _) _)) | exact HC0.out.trans (Chg.of_below (below_al (Below.refl _ _) _)) | fail)))
    (first
      | (go_at_call 134; (have hBB := (‹_ ∧ _ ∧ _ ∧ _ ∧ Hid (Chg [] W0 _)›).2.2.2.2); (with_reducible refine ((implNatAdd_any _ _ (limbs R) (limbs R) 0 _ 0 _ _ (by omega) (by omega) (Nat.le_refl _) (Nat.le_refl _) (OwnI.row (Hr.out _ (BBF.out _ hBB.out))) (OwnI.row (Hr.out _ (BBF.out _ hBB.out)))).mono fun _ _ h => (newI_eq h EA.out).newV).mono ?_); rintro e w1 ⟨ua, Sa, rfl, oa, la, b1⟩; have HC1 := Lib.hid (hBB.out.trans (Chg.of_below b1)); obtain ⟨Ea, ea, rfl⟩ := own_len oa.here; have HBZ1 := Lib.hid hBB.out.size; clear hBB)
      | (go_at_call 133; (have hBB := (‹_ ∧ _ ∧ _ ∧ _ ∧ Hid (Chg [] W0 _)›).2.2.2.2); (with_reducible refine (HCM.out _ _ _ (At.here (by first | exact oa | exact At.below oa (below_al (Below.refl _ _) _) | exact At.below (At.below oa (below_al (Below.refl _ _) _)) (below_al (Below.refl _ _) _) | exact At.move oa (fun _ _ => rfl) (Nat.le_refl _))) (Hd.out _ (BBF.out _ hBB.out))).mono ?_); rintro e w2 ⟨rfl, b2⟩; have HC2 := Lib.hid (hBB.out.trans (Chg.of_below b2)); (have oa_2 := At.below (by first | exact oa | exact At.below oa (below_al (Below.refl _ _) _) | exact At.below (At.below oa (below_al (Below.refl _ _) _)) (below_al (Below.refl _ _) _) | exact At.move oa (fun _ _ => rfl) (Nat.le_refl _)) b2); have HBZ2 := Lib.hid hBB.out.size; clear hBB))
  have bb2 := BBF.out _ HC2.out
  replace ks := ks.chg HC2.out (fun i hi hm => by simp at hm)
  have oa := oa_2
  go_wp2
  go_ret
  exact ⟨rfl, bb2⟩
set_option maxHeartbeats 1000000 in
set_option maxRecDepth 100000 in
theorem farther_0 (Aq Ar Ad : Option Addr) (cq cr cd : Nat) (neg : Bool) (Q R D : Nat) (w : World) (_ : (limbs Q).length ≤ 50) (_ : (limbs R).length ≤ 18) (_ : (limbs D).length ≤ 18) (_ : OwnI (.slice Aq (limbs Q).length cq) (limbs Q) w) (_ : OwnI (.slice Ar (limbs R).length cr) (limbs R) w) (_ : OwnI (.slice Ad (limbs D).length cd) (limbs D) w) :
    Calls Tryd.prog 139 #[.agg #[.bool neg, .slice Aq (limbs Q).length cq, .slice Ar (limbs R).length cr, .slice Ad (limbs D).length cd]] w (Postb (awayB neg Q R D 0) w) := by
  have bb0 : Below w.heap.size w (w.alloc (.cells #[.bool neg, .slice Aq (limbs Q).length cq, .slice Ar (limbs R).length cr, .slice Ad (limbs D).length cd] 153)) := below_al (Below.refl _ _) _
  have ks := (box_new w #[.bool neg, .slice Aq (limbs Q).length cq, .slice Ar (limbs R).length cr, .slice Ad (limbs D).length cd] 153)
  go_enter Tryd.func139, Tryd.ntmps139
  go_wp2
  go_ret
  exact ⟨ret_bool (rfl), bb0⟩
set_option maxHeartbeats 1000000 in
set_option maxRecDepth 100000 in
theorem farther_1 (Aq Ar Ad : Option Addr) (cq cr cd : Nat) (neg : Bool) (Q R D : Nat) (w : World) (_ : (limbs Q).length ≤ 50) (_ : (limbs R).length ≤ 18) (_ : (limbs D).length ≤ 18) (_ : OwnI (.slice Aq (limbs Q).length cq) (limbs Q) w) (_ : OwnI (.slice Ar (limbs R).length cr) (limbs R) w) (_ : OwnI (.slice Ad (limbs D).length cd) (limbs D) w) :
    Calls Tryd.prog 140 #[.agg #[.bool neg, .slice Aq (limbs Q).length cq, .slice Ar (limbs R).length cr, .slice Ad (limbs D).length cd]] w (Postb (awayB neg Q R D 1) w) := by
  have bb0 : Below w.heap.size w (w.alloc (.cells #[.bool neg, .slice Aq (limbs Q).length cq, .slice Ar (limbs R).length cr, .slice Ad (limbs D).length cd] 153)) := below_al (Below.refl _ _) _
  have ks := (box_new w #[.bool neg, .slice Aq (limbs Q).length cq, .slice Ar (limbs R).length cr, .slice Ad (limbs D).length cd] 153)
  go_enter Tryd.func140, Tryd.ntmps140
  go_wp2
  go_ret
  exact ⟨ret_bool (rfl), bb0⟩
set_option maxHeartbeats 1000000 in
set_option maxRecDepth 100000 in
theorem farther_2 (Aq Ar Ad : Option Addr) (cq cr cd : Nat) (neg : Bool) (Q R D : Nat) (w : World) (_ : (limbs Q).length ≤ 50) (_ : (limbs R).length ≤ 18) (_ : (limbs D).length ≤ 18) (_ : OwnI (.slice Aq (limbs Q).length cq) (limbs Q) w) (_ : OwnI (.slice Ar (limbs R).length cr) (limbs R) w) (_ : OwnI (.slice Ad (limbs D).length cd) (limbs D) w) :
    Calls Tryd.prog 141 #[.agg #[.bool neg, .slice Aq (limbs Q).length cq, .slice Ar (limbs R).length cr, .slice Ad (limbs D).length cd]] w (Postb (awayB neg Q R D 2) w) := by
  have bb0 : Below w.heap.size w (w.alloc (.cells #[.bool neg, .slice Aq (limbs Q).length cq, .slice Ar (limbs R).length cr, .slice Ad (limbs D).length cd] 153)) := below_al (Below.refl _ _) _
  have ks := (box_new w #[.bool neg, .slice Aq (limbs Q).length cq, .slice Ar (limbs R).length cr, .slice Ad (limbs D).length cd] 153)
  go_enter Tryd.func141, Tryd.ntmps141
  have ks_c0 := ks.here.cell 0 _ rfl
  have ks_c1 := ks.here.cell 1 _ rfl
  have ks_c2 := ks.here.cell 2 _ rfl
  have ks_c3 := ks.here.cell 3 _ rfl
  go_wp2
  go_ret
  exact ⟨ret_bool (rfl), bb0⟩
set_option maxHeartbeats 1000000 in
set_option maxRecDepth 100000 in
theorem farther_3 (Aq Ar Ad : Option Addr) (cq cr cd : Nat) (neg : Bool) (Q R D : Nat) (w : World) (_ : (limbs Q).length ≤ 50) (_ : (limbs R).length ≤ 18) (_ : (limbs D).length ≤ 18) (_ : OwnI (.slice Aq (limbs Q).length cq) (limbs Q) w) (_ : OwnI (.slice Ar (limbs R).length cr) (limbs R) w) (_ : OwnI (.slice Ad (limbs D).length cd) (limbs D) w) :
    Calls Tryd.prog 142 #[.agg #[.bool neg, .slice Aq (limbs Q).length cq, .slice Ar (limbs R).length cr, .slice Ad (limbs D).length cd]] w (Postb (awayB neg Q R D 3) w) := by
  have bb0 : Below w.heap.size w (w.alloc (.cells #[.bool neg, .slice Aq (limbs Q).length cq, .slice Ar (limbs R).length cr, .slice Ad (limbs D).length cd] 153)) := below_al (Below.refl _ _) _
  have ks := (box_new w #[.bool neg, .slice Aq (limbs Q).length cq, .slice Ar (limbs R).length cr, .slice Ad (limbs D).length cd] 153)
  go_enter Tryd.func142, Tryd.ntmps142
  have ks_c0 := ks.here.cell 0 _ rfl
  have ks_c1 := ks.here.cell 1 _ rfl
  have ks_c2 := ks.here.cell 2 _ rfl
  have ks_c3 := ks.here.cell 3 _ rfl
  go_wp2
  go_ret
  exact ⟨ret_bool (rfl), bb0⟩
set_option maxHeartbeats 1000000 in
set_option maxRecDepth 100000 in
theorem farther_4 (Aq Ar Ad : Option Addr) (cq cr cd : Nat) (neg : Bool) (Q R D : Nat) (w : World) (hql : (limbs Q).length ≤ 50) (hrl : (limbs R).length ≤ 18) (hdl : (limbs D).length ≤ 18) (oq : OwnI (.slice Aq (limbs Q).length cq) (limbs Q) w) (or_ : OwnI (.slice Ar (limbs R).length cr) (limbs R) w) (od : OwnI (.slice Ad (limbs D).length cd) (limbs D) w) :
    Calls Tryd.prog 143 #[.agg #[.bool neg, .slice Aq (limbs Q).length cq, .slice Ar (limbs R).length cr, .slice Ad (limbs D).length cd]] w (Postb (awayB neg Q R D 4) w) := by
  obtain ⟨c, hc⟩ : ∃ c, cmpI ((R : Int) + R + 0) D = c := ⟨_, rfl⟩
  have HC := Lib.hid hc
  have HA := Lib.hid (away_cmp neg Q R D hc)
  have h3 : c = -1 ∨ c = 0 ∨ c = 1 := by rw [← hc]; exact cmp_three _ _
  have Hq := Lib.hid (show ∀ W, Below w.heap.size w W → OwnI (.slice Aq (limbs Q).length cq) (limbs Q) W from fun W hb => OwnI.belowI oq hb)
  have Hr := Lib.hid (show ∀ W, Below w.heap.size w W → OwnI (.slice Ar (limbs R).length cr) (limbs R) W from fun W hb => OwnI.belowI or_ hb)
  have Hd := Lib.hid (show ∀ W, Below w.heap.size w W → OwnI (.slice Ad (limbs D).length cd) (limbs D) W from fun W hb => OwnI.belowI od hb)
  clear hc oq or_ od
  have bb0 : Below w.heap.size w (w.alloc (.cells #[.bool neg, .slice Aq (limbs Q).length cq, .slice Ar (limbs R).length cr, .slice Ad (limbs D).length cd] 153)) := below_al (Below.refl _ _) _
  have ks := (box_new w #[.bool neg, .slice Aq (limbs Q).length cq, .slice Ar (limbs R).length cr, .slice Ad (limbs D).length cd] 153)
  go_enter Tryd.func143, Tryd.ntmps143
  have ks_c0 := ks.here.cell 0 _ rfl
  have ks_c1 := ks.here.cell 1 _ rfl
  have ks_c2 := ks.here.cell 2 _ rfl
  have ks_c3 := ks.here.cell 3 _ rfl
  go_wp2_with fail
  clear ks_c0 ks_c1 ks_c2 ks_c3
  refine ((overHalf_any Aq Ar Ad cq cr cd neg Q R D _ hql hrl hdl (Hq.out _ bb0) (Hr.out _ bb0) (Hd.out _ bb0)).mono fun _ _ h => postn_eq HC.out h).mono ?_
  rintro e w1 ⟨rfl, b1⟩
  have bb1 := Below.next bb0 b1
  replace ks := ks.below b1
  clear h3 ks
  go_wp2
  go_ret
  exact ⟨ret_bool (HA.out.1.symm), bb1⟩
set_option maxHeartbeats 1000000 in
set_option maxRecDepth 100000 in
theorem farther_5 (Aq Ar Ad : Option Addr) (cq cr cd : Nat) (neg : Bool) (Q R D : Nat) (w : World) (hql : (limbs Q).length ≤ 50) (hrl : (limbs R).length ≤ 18) (hdl : (limbs D).length ≤ 18) (oq : OwnI (.slice Aq (limbs Q).length cq) (limbs Q) w) (or_ : OwnI (.slice Ar (limbs R).length cr) (limbs R) w) (od : OwnI (.slice Ad (limbs D).length cd) (limbs D) w) :
    Calls Tryd.prog 145 #[.agg #[.bool neg, .slice Aq (limbs Q).length cq, .slice Ar (limbs R).length cr, .slice Ad (limbs D).length cd]] w (Postb (awayB neg Q R D 5) w) := by
  obtain ⟨c, hc⟩ : ∃ c, cmpI ((R : Int) + R + 0) D = c := ⟨_, rfl⟩
  have HC := Lib.hid hc
  have HA := Lib.hid (away_cmp neg Q R D hc)
  have h3 : c = -1 ∨ c = 0 ∨ c = 1 := by rw [← hc]; exact cmp_three _ _
  have Hq := Lib.hid (show ∀ W, Below w.heap.size w W → OwnI (.slice Aq (limbs Q).length cq) (limbs Q) W from fun W hb => OwnI.belowI oq hb)
  have Hr := Lib.hid (show ∀ W, Below w.heap.size w W → OwnI (.slice Ar (limbs R).length cr) (limbs R) W from fun W hb => OwnI.belowI or_ hb)
  have Hd := Lib.hid (show ∀ W, Below w.heap.size w W → OwnI (.slice Ad (limbs D).length cd) (limbs D) W from fun W hb => OwnI.belowI od hb)
  clear hc oq or_ od
  have bb0 : Below w.heap.size w (w.alloc (.cells #[.bool neg, .slice Aq (limbs Q).length cq, .slice Ar (limbs R).length cr, .slice Ad (limbs D).length cd] 153)) := below_al (Below.refl _ _) _
  have ks := (box_new w #[.bool neg, .slice Aq (limbs Q).length cq, .slice Ar (limbs R).length cr, .slice Ad (limbs D).length cd] 153)
  go_enter Tryd.func145, Tryd.ntmps145
  have ks_c0 := ks.here.cell 0 _ rfl
  have ks_c1 := ks.here.cell 1 _ rfl
  have ks_c2 := ks.here.cell 2 _ rfl
  have ks_c3 := ks.here.cell 3 _ rfl
  go_wp2_with fail
  clear ks_c0 ks_c1 ks_c2 ks_c3
  refine ((overHalf_any Aq Ar Ad cq cr cd neg Q R D _ hql hrl hdl (Hq.out _ bb0) (Hr.out _ bb0) (Hd.out _ bb0)).mono fun _ _ h => postn_eq HC.out h).mono ?_
  rintro e w1 ⟨rfl, b1⟩
  have bb1 := Below.next bb0 b1
  replace ks := ks.below b1
  clear h3 ks
  go_wp2
  go_ret
  exact ⟨ret_bool (HA.out.2.1.symm), bb1⟩
set_option maxHeartbeats 1000000 in
set_option maxRecDepth 100000 in
theorem farther_6 (Aq Ar Ad : Option Addr) (cq cr cd : Nat) (neg : Bool) (Q R D : Nat) (w : World) (hql : (limbs Q).length ≤ 50) (hrl : (limbs R).length ≤ 18) (hdl : (limbs D).length ≤ 18) (oq : OwnI (.slice Aq (limbs Q).length cq) (limbs Q) w) (or_ : OwnI (.slice Ar (limbs R).length cr) (limbs R) w) (od : OwnI (.slice Ad (limbs D).length cd) (limbs D) w) :
    Calls Tryd.prog 146 #[.agg #[.bool neg, .slice Aq (limbs Q).length cq, .slice Ar (limbs R).length cr, .slice Ad (limbs D).length cd]] w (Postb (awayB neg Q R D 6) w) := by
  obtain ⟨c, hc⟩ : ∃ c, cmpI ((R : Int) + R + 0) D = c := ⟨_, rfl⟩
  have HC := Lib.hid hc
  have HA := Lib.hid (away_cmp neg Q R D hc)
  have h3 : c = -1 ∨ c = 0 ∨ c = 1 := by rw [← hc]; exact cmp_three _ _
  have Hq := Lib.hid (show ∀ W, Below w.heap.size w W → OwnI (.slice Aq (limbs Q).length cq) (limbs Q) W from fun W hb => OwnI.belowI oq hb)
  have Hr := Lib.hid (show ∀ W, Below w.heap.size w W → OwnI (.slice Ar (limbs R).length cr) (limbs R) W from fun W hb => OwnI.belowI or_ hb)
  have Hd := Lib.hid (show ∀ W, Below w.heap.size w W → OwnI (.slice Ad (limbs D).length cd) (limbs D) W from fun W hb => OwnI.belowI od hb)
  clear hc oq or_ od
  have bb0 : Below w.heap.size w (w.alloc (.cells #[.bool neg, .slice Aq (limbs Q).length cq, .slice Ar (limbs R).length cr, .slice Ad (limbs D).length cd] 153)) := below_al (Below.refl _ _) _
  have ks := (box_new w #[.bool neg, .slice Aq (limbs Q).length cq, .slice Ar (limbs R).length cr, .slice Ad (limbs D).length cd] 153)
  go_enter Tryd.func146, Tryd.ntmps146
  have ks_c0 := ks.here.cell 0 _ rfl
  have ks_c1 := ks.here.cell 1 _ rfl
  have ks_c2 := ks.here.cell 2 _ rfl
  have ks_c3 := ks.here.cell 3 _ rfl
  go_wp2_with fail
  clear ks_c0 ks_c1 ks_c2 ks_c3
  refine ((overHalf_any Aq Ar Ad cq cr cd neg Q R D _ hql hrl hdl (Hq.out _ bb0) (Hr.out _ bb0) (Hd.out _ bb0)).mono fun _ _ h => postn_eq HC.out h).mono ?_
  rintro e w1 ⟨rfl, b1⟩
  have bb1 := Below.next bb0 b1
  replace ks := ks.below b1
  rcases h3 with rfl | rfl | rfl
  · skip
    have ks_c0 := ks.here.cell 0 _ rfl
    have ks_c1 := ks.here.cell 1 _ rfl
    have ks_c2 := ks.here.cell 2 _ rfl
    have ks_c3 := ks.here.cell 3 _ rfl
    go_wp2_with fail
    clear ks_c0 ks_c1 ks_c2 ks_c3
    refine ((overHalf_any Aq Ar Ad cq cr cd neg Q R D _ hql hrl hdl (Hq.out _ bb1) (Hr.out _ bb1) (Hd.out _ bb1)).mono fun _ _ h => postn_eq HC.out h).mono ?_
    rintro e w2 ⟨rfl, b2⟩
    have bb2 := Below.next bb1 b2
    replace ks := ks.below b2
    clear ks
    go_wp2
    go_ret
    exact ⟨ret_bool ((HA.out.2.2.trans (by simp)).symm), bb2⟩
  · have he : decide (Q % 2 = 1) = !decide (Q % 2 = 0) := by rcases Nat.mod_two_eq_zero_or_one Q with h | h <;> rw [h] <;> rfl
    have HV := Lib.hid (show awayB neg Q R D 6 = !decide (Q % 2 = 0) by rw [HA.out.2.2, he]; rfl)
    clear he HA
    have ks_c0 := ks.here.cell 0 _ rfl
    have ks_c1 := ks.here.cell 1 _ rfl
    have ks_c2 := ks.here.cell 2 _ rfl
    have ks_c3 := ks.here.cell 3 _ rfl
    go_wp2_with fail
    clear ks_c0 ks_c1 ks_c2 ks_c3
    refine ((overHalf_any Aq Ar Ad cq cr cd neg Q R D _ hql hrl hdl (Hq.out _ bb1) (Hr.out _ bb1) (Hd.out _ bb1)).mono fun _ _ h => postn_eq HC.out h).mono ?_
    rintro e w2 ⟨rfl, b2⟩
    have bb2 := Below.next bb1 b2
    replace ks := ks.below b2
    have ks_c0 := ks.here.cell 0 _ rfl
    have ks_c1 := ks.here.cell 1 _ rfl
    have ks_c2 := ks.here.cell 2 _ rfl
    have ks_c3 := ks.here.cell 3 _ rfl
    go_wp2_with fail
    clear ks_c0 ks_c1 ks_c2 ks_c3
    refine (implNatEven_any _ (limbs Q) 0 _ _ (by omega) (OwnI.row (Hq.out _ bb2))).mono ?_
    rintro e w_ ⟨rfl, rfl⟩
    rw [even_limbs (by omega)]
    generalize decide (Q % 2 = 0) = b at *
    clear ks
    cases b
    · skip
      go_wp2
      go_ret
      exact ⟨ret_bool (HV.out.symm), bb2⟩
    · skip
      go_wp2
      go_ret
      exact ⟨ret_bool (HV.out.symm), bb2⟩
  · skip
    clear ks
    go_wp2
    go_ret
    exact ⟨ret_bool ((HA.out.2.2.trans (by simp)).symm), bb1⟩
theorem farther_any (Aq Ar Ad : Option Addr) (cq cr cd : Nat) (neg : Bool) (Q R D : Nat) (w : World) (hql : (limbs Q).length ≤ 50) (hrl : (limbs R).length ≤ 18) (hdl : (limbs D).length ≤ 18) (oq : OwnI (.slice Aq (limbs Q).length cq) (limbs Q) w) (or_ : OwnI (.slice Ar (limbs R).length cr) (limbs R) w) (od : OwnI (.slice Ad (limbs D).length cd) (limbs D) w) (m : Int) (hm : modeB m = true) :
    Calls Tryd.prog (fnOf m) #[.agg #[.bool neg, .slice Aq (limbs Q).length cq, .slice Ar (limbs R).length cr, .slice Ad (limbs D).length cd]] w (Postb (awayB neg Q R D m) w) := by
  rcases modeB_cases hm with rfl | rfl | rfl | rfl | rfl | rfl | rfl
  · exact farther_0 Aq Ar Ad cq cr cd neg Q R D w hql hrl hdl oq or_ od
  · exact farther_1 Aq Ar Ad cq cr cd neg Q R D w hql hrl hdl oq or_ od
  · exact farther_2 Aq Ar Ad cq cr cd neg Q R D w hql hrl hdl oq or_ od
  · exact farther_3 Aq Ar Ad cq cr cd neg Q R D w hql hrl hdl oq or_ od
  · exact farther_4 Aq Ar Ad cq cr cd neg Q R D w hql hrl hdl oq or_ od
  · exact farther_5 Aq Ar Ad cq cr cd neg Q R D w hql hrl hdl oq or_ od
  · exact farther_6 Aq Ar Ad cq cr cd neg Q R D w hql hrl hdl oq or_ od
theorem fnOf_enters {m : Int} (hm : modeB m = true) : Enters Tryd.prog (fnOf m) := by
  rcases modeB_cases hm with rfl | rfl | rfl | rfl | rfl | rfl | rfl
  · exact (enters_of Tryd.func139 (by kernel_rfl) rfl : Enters Tryd.prog 139)
  · exact (enters_of Tryd.func140 (by kernel_rfl) rfl : Enters Tryd.prog 140)
  · exact (enters_of Tryd.func141 (by kernel_rfl) rfl : Enters Tryd.prog 141)
  · exact (enters_of Tryd.func142 (by kernel_rfl) rfl : Enters Tryd.prog 142)
  · exact (enters_of Tryd.func143 (by kernel_rfl) rfl : Enters Tryd.prog 143)
  · exact (enters_of Tryd.func145 (by kernel_rfl) rfl : Enters Tryd.prog 145)
  · exact (enters_of Tryd.func146 (by kernel_rfl) rfl : Enters Tryd.prog 146)
set_option maxHeartbeats 4000000 in
set_option maxRecDepth 100000 in
theorem quotient_any (nm : ByteArray) (vx vd : Value) (x : SI) (D : Nat) (m : Int) (w : World) (hm : modeB m = true) (ok : okS x = true) (h0D : 0 < D) (hdl : (limbs D).length ≤ 18) (hx : OwnS vx x w) (hd : OwnI vd (limbs D) w) (hsen : Sen w) :
    Calls Tryd.prog 80 #[.agg #[.string nm, .func (.func (fnOf m)) #[] #[]], vx, vd] w (NewV (fun u => OwnS u (mkS x.1 (quoL x.1 (nval x.2).toNat D m))) w) := by
  have HS := Lib.hid hsen
  clear hsen
  have Hx := Lib.hid hx
  obtain ⟨Ax, cx, rfl⟩ := ownS_form hx
  have OSx := Lib.hid (show ∀ W, Below w.heap.size w W → OwnS (.agg #[.bool x.1, .slice Ax x.2.length cx]) x W from fun W hb => OwnS.below Hx.out hb)
  have OIx := Lib.hid (show ∀ W, Below w.heap.size w W → OwnI (.slice Ax x.2.length cx) x.2 W from fun W hb => ownS_open (OSx.out W hb))
  clear hx
  obtain ⟨Ad, cd, rfl⟩ := own_len hd
  have ODd := Lib.hid (show ∀ W, Below w.heap.size w W → OwnI (.slice Ad (limbs D).length cd) (limbs D) W from fun W hb => OwnI.belowI hd hb)
  clear hd
  have HM := Lib.hid hm
  have HO := Lib.hid ok
  have HF := Lib.hid (fun (Aq Ar Ad : Option Addr) (cq cr cd : Nat) (neg : Bool) (Q R D : Nat) (w : World) hql hrl hdl oq or_ od => farther_any Aq Ar Ad cq cr cd neg Q R D w hql hrl hdl oq or_ od m hm)
  have he := fnOf_enters hm
  unfold Enters at he
  clear hm
  generalize fnOf m = fk at HF he ⊢
  have bb0 : Below w.heap.size w (((w.alloc (.cells #[.string nm, .func (.func fk) #[] #[]] 99)).alloc (.cells #[.bool x.1, .slice Ax x.2.length cx] 28)).alloc (.cells #[.bool false, .slice none 0 0] 28)) := below_al (below_al (below_al (Below.refl _ _) _) _) _
  have km := (box_new w #[.string nm, .func (.func fk) #[] #[]] 99).below (below_al (below_al (Below.refl _ _) (.cells #[.bool x.1, .slice Ax x.2.length cx] 28)) (.cells #[.bool false, .slice none 0 0] 28))
  have kx := (box_new (w.alloc (.cells #[.string nm, .func (.func fk) #[] #[]] 99)) #[.bool x.1, .slice Ax x.2.length cx] 28).below (below_al (Below.refl _ _) (.cells #[.bool false, .slice none 0 0] 28))
  rw [show (w.alloc (.cells #[.string nm, .func (.func fk) #[] #[]] 99)).heap.size = w.heap.size + 1 by simp] at kx
  have ko := (box_new ((w.alloc (.cells #[.string nm, .func (.func fk) #[] #[]] 99)).alloc (.cells #[.bool x.1, .slice Ax x.2.length cx] 28)) #[.bool false, .slice none 0 0] 28)
  rw [show ((w.alloc (.cells #[.string nm, .func (.func fk) #[] #[]] 99)).alloc (.cells #[.bool x.1, .slice Ax x.2.length cx] 28)).heap.size = w.heap.size + 1 + 1 by simp] at ko
  have HKO := Lib.hid (ko.lt (w.heap.size + 1 + 1) (by simp))
  have hp := okS_parts ok
  have hn := nval_ok hp.1
  have hx50 := (natOk_parts hp.1).2.1
  obtain ⟨A, hA⟩ : ∃ A, (nval x.2).toNat = A := ⟨_, rfl⟩
  have hxA : x.2 = limbs A := by rw [← hA]; exact natOk_limbs hp.1
  have hnA : nval x.2 = (A : Int) := by omega
  rw [hA]
  obtain ⟨Q, hQ⟩ : ∃ Q, A / D = Q := ⟨_, rfl⟩
  obtain ⟨R, hR⟩ : ∃ R, A % D = R := ⟨_, rfl⟩
  have EQ := Lib.hid hQ
  have ER := Lib.hid hR
  have hAl := nval_lt (limbs A) (limbs_digN A)
  rw [limbs_val, ← hxA] at hAl
  have hql : (limbs Q).length ≤ 50 := Nat.le_trans (limbs_length_le Q x.2.length (by have h1 := Nat.div_le_self A D; rw [hQ] at h1; omega)) hx50
  have hDl := nval_lt (limbs D) (limbs_digN D)
  rw [limbs_val] at hDl
  have hrl : (limbs R).length ≤ 18 := Nat.le_trans (limbs_length_le R (limbs D).length (by have h1 := Nat.mod_lt A h0D; rw [hR] at h1; omega)) hdl
  have hD0 : 0 < (limbs D).length := by have := (limbs_zero_iff D).1; omega
  have hdv : divN x.2 (limbs D) = (limbs Q, limbs R) := by unfold divN; rw [if_pos ⟨hp.1, limbs_okL D (by omega), hD0⟩, hnA, limbs_val, div_toNat, ← Int.natCast_emod, Int.toNat_natCast, hQ, hR]
  have E1 := Lib.hid (show (divN x.2 (limbs D)).1 = limbs Q by rw [hdv])
  have E2 := Lib.hid (show (divN x.2 (limbs D)).2 = limbs R by rw [hdv])
  clear hA hxA hnA hQ hR hAl hDl hdv hp hn ok hD0 h0D
  go_enter Tryd.func80, Tryd.ntmps80
  have kx_c0 := kx.here.cell 0 _ rfl
  have kx_c1 := kx.here.cell 1 _ rfl
  go_wp2_with fail
  clear kx_c0 kx_c1
  refine ((implNatDiv_any _ _ x.2 (limbs D) 0 _ 0 _ _ (by omega) (by omega) (Nat.le_refl _) (Nat.le_refl _) (OIx.out _ bb0).row (ODd.out _ bb0).row (HS.out.below bb0)).mono fun _ _ h => twoRows_eq h E1.out E2.out).mono ?_
  rintro e w1 ⟨vq, vr_, rfl, oq0, or0, hqr, b1⟩
  obtain ⟨Aq, cq, rfl⟩ := own_len oq0
  obtain ⟨As, cs, rfl⟩ := own_len or0
  have oq := own_at' oq0
  have os := own_at' or0
  have lq := own_within oq0
  clear oq0 or0 hqr
  have bb1 := Below.next bb0 b1
  replace km := km.below b1
  replace kx := kx.below b1
  replace ko := ko.below b1
  by_cases h0 : R = 0
  · have HV := Lib.hid (show quoL x.1 A D m = limbs Q from quoL_plain EQ.out ER.out (.inl h0))
    subst h0
    rw [show (limbs 0).length = 0 by rw [limbs_zero]; rfl] at *
    clear os
    have hX50 : (limbs Q).length ≤ 50 := hql
    obtain ⟨sg, hsg⟩ : ∃ sg, (x.1 && decide (0 < (limbs Q).length)) = sg := ⟨_, rfl⟩
    have ESG := Lib.hid hsg
    have EM := Lib.hid (show mkS x.1 (quoL x.1 A D m) = (sg, limbs Q) by rw [HV.out]; exact mkS_quo hX50 hsg)
    clear hsg
    have kx_c0 := kx.here.cell 0 _ rfl
    have kx_c1 := kx.here.cell 1 _ rfl
    have kn := box_new (w1) #[.slice Aq (limbs Q).length cq, .bool x.1] 128
    have aln := below_al (Below.refl (w1).heap.size (w1)) (.cells #[.slice Aq (limbs Q).length cq, .bool x.1] 128)
    have bbn := Below.next bb1 aln
    replace km := km.below aln
    replace kx := kx.below aln
    replace ko := ko.below aln
    replace oq := oq.below aln
    go_wp2_with fail
    clear kx_c0 kx_c1
    refine (signed_same _ _ Aq cq (limbs Q) sg _ hX50 ESG.out kn.here).mono ?_
    rintro e w2 ⟨rfl, b2⟩
    have bb2 := Below.next bbn b2
    replace km := km.below b2
    replace kx := kx.below b2
    replace ko := ko.below b2
    replace oq := oq.below b2
    replace kn := kn.below b2
    have of := oq.imp (fun _ h => (OwnS.mk h : OwnS (.agg #[.bool (sg, (limbs Q)).1, .slice Aq (limbs Q).length cq]) (sg, (limbs Q)) _))
    have lf := within_up lq (Nat.le_refl _) (show _ ≤ w2.heap.size by have := aln.size; have := b2.size; omega)
    have HW := Lib.hid (newS_at (r := w.heap.size + 1 + 1) of lf (by have := HKO.out; have := b1.size;  omega) (by omega) bb2)
    have cz0 := ko.here.cell 0 _ rfl
    have fz0 := Lib.frozen_of_heap ko.here 0
    have cz1 := ko.here.cell 1 _ rfl
    have fz1 := Lib.frozen_of_heap ko.here 1
    clear of ko kn km
    go_wp2
    refine bodyPost_ret (v := .agg #[.bool sg, .slice Aq _ cq]) (by simp [results, Tryd.results80, go_sem, cz0, cz1]; try rfl) rfl ?_
    rw [EM.out]
    exact HW.out
  · have hlen : ((limbs R).length : Int) > 0 := by have := mt (limbs_zero_iff R).1 h0; omega
    have H0 := Lib.hid h0
    clear h0
    have kx_c0 := kx.here.cell 0 _ rfl
    have kx_c1 := kx.here.cell 1 _ rfl
    have km_c0 := km.here.cell 0 _ rfl
    have km_c1 := km.here.cell 1 _ rfl
    go_wp2_with fail
    clear kx_c0 kx_c1 km_c0 km_c1
    refine (show Calls _ fk #[.agg #[.bool x.1, .slice Aq (limbs Q).length cq, .slice As (limbs R).length cs, .slice Ad (limbs D).length cd]] _ (Postb (awayB x.1 Q R D m) _) from HF.out Aq As Ad cq cs cd x.1 Q R D _ hql hrl hdl oq.here os.here (ODd.out _ bb1)).mono ?_
    rintro e w2 ⟨rfl, b2⟩
    have bb2 := Below.next bb1 b2
    replace km := km.below b2
    replace kx := kx.below b2
    replace ko := ko.below b2
    replace oq := oq.below b2
    replace os := os.below b2
    by_cases ha : awayB x.1 Q R D m = true
    · have HV := Lib.hid (show quoL x.1 A D m = addN (limbs Q) (limbs 1) from quoL_more EQ.out ER.out H0.out ha)
      rw [ha]
      clear ha
      have kx_c0 := kx.here.cell 0 _ rfl
      have kx_c1 := kx.here.cell 1 _ rfl
      go_wp2_with fail
      clear kx_c0 kx_c1
      refine (implNatOf_any 1 _ (by decide)).mono ?_
      rintro e w3 ⟨vo, rfl, oo, b3⟩
      rw [show (1 : Int).toNat = 1 from rfl] at oo
      have bb3 := Below.next bb2 b3
      replace km := km.below b3
      replace kx := kx.below b3
      replace ko := ko.below b3
      replace oq := oq.below b3
      replace os := os.below b3
      go_wp2_with fail
      refine (implNatAdd_any _ _ (limbs Q) (limbs 1) 0 _ _ _ _ (by omega) (by rw [one_limbs]; decide) (Nat.le_refl _) (Nat.le_refl _) oq.here.row (Row.of_own oo)).mono ?_
      rintro e w4 ⟨vz, rfl, oz0, b4⟩
      obtain ⟨Az, cz, rfl⟩ := own_len oz0
      have oz := own_at' oz0
      have lz := own_within oz0
      clear oz0
      have bb4 := Below.next bb3 b4
      replace km := km.below b4
      replace kx := kx.below b4
      replace ko := ko.below b4
      replace oq := oq.below b4
      replace os := os.below b4
      clear oq os
      have hX50 : (addN (limbs Q) (limbs 1)).length ≤ 50 := addN_len50 _ _
      obtain ⟨sg, hsg⟩ : ∃ sg, (x.1 && decide (0 < (addN (limbs Q) (limbs 1)).length)) = sg := ⟨_, rfl⟩
      have ESG := Lib.hid hsg
      have EM := Lib.hid (show mkS x.1 (quoL x.1 A D m) = (sg, addN (limbs Q) (limbs 1)) by rw [HV.out]; exact mkS_quo hX50 hsg)
      clear hsg
      have kx_c0 := kx.here.cell 0 _ rfl
      have kx_c1 := kx.here.cell 1 _ rfl
      have kn := box_new (w4) #[.slice Az (addN (limbs Q) (limbs 1)).length cz, .bool x.1] 128
      have aln := below_al (Below.refl (w4).heap.size (w4)) (.cells #[.slice Az (addN (limbs Q) (limbs 1)).length cz, .bool x.1] 128)
      have bbn := Below.next bb4 aln
      replace km := km.below aln
      replace kx := kx.below aln
      replace ko := ko.below aln
      replace oz := oz.below aln
      go_wp2_with fail
      clear kx_c0 kx_c1
      refine (signed_same _ _ Az cz (addN (limbs Q) (limbs 1)) sg _ hX50 ESG.out kn.here).mono ?_
      rintro e w5 ⟨rfl, b5⟩
      have bb5 := Below.next bbn b5
      replace km := km.below b5
      replace kx := kx.below b5
      replace ko := ko.below b5
      replace oz := oz.below b5
      replace kn := kn.below b5
      have of := oz.imp (fun _ h => (OwnS.mk h : OwnS (.agg #[.bool (sg, (addN (limbs Q) (limbs 1))).1, .slice Az (addN (limbs Q) (limbs 1)).length cz]) (sg, (addN (limbs Q) (limbs 1))) _))
      have lf := within_up lz (Nat.le_refl _) (show _ ≤ w5.heap.size by have := aln.size; have := b2.size; have := b3.size; have := b4.size; have := b5.size; omega)
      have HW := Lib.hid (newS_at (r := w.heap.size + 1 + 1) of lf (by have := HKO.out; have := b1.size; have := b2.size; have := b3.size; have := b4.size; omega) (by omega) bb5)
      have cz0 := ko.here.cell 0 _ rfl
      have fz0 := Lib.frozen_of_heap ko.here 0
      have cz1 := ko.here.cell 1 _ rfl
      have fz1 := Lib.frozen_of_heap ko.here 1
      clear of ko kn km
      go_wp2
      refine bodyPost_ret (v := .agg #[.bool sg, .slice Az _ cz]) (by simp [results, Tryd.results80, go_sem, cz0, cz1]; try rfl) rfl ?_
      rw [EM.out]
      exact HW.out
    · have ha' : awayB x.1 Q R D m = false := by simpa using ha
      have HV := Lib.hid (show quoL x.1 A D m = limbs Q from quoL_plain EQ.out ER.out (.inr ha'))
      rw [ha']
      clear ha ha' os
      have hX50 : (limbs Q).length ≤ 50 := hql
      obtain ⟨sg, hsg⟩ : ∃ sg, (x.1 && decide (0 < (limbs Q).length)) = sg := ⟨_, rfl⟩
      have ESG := Lib.hid hsg
      have EM := Lib.hid (show mkS x.1 (quoL x.1 A D m) = (sg, limbs Q) by rw [HV.out]; exact mkS_quo hX50 hsg)
      clear hsg
      have kx_c0 := kx.here.cell 0 _ rfl
      have kx_c1 := kx.here.cell 1 _ rfl
      have kn := box_new (w2) #[.slice Aq (limbs Q).length cq, .bool x.1] 128
      have aln := below_al (Below.refl (w2).heap.size (w2)) (.cells #[.slice Aq (limbs Q).length cq, .bool x.1] 128)
      have bbn := Below.next bb2 aln
      replace km := km.below aln
      replace kx := kx.below aln
      replace ko := ko.below aln
      replace oq := oq.below aln
      go_wp2_with fail
      clear kx_c0 kx_c1
      refine (signed_same _ _ Aq cq (limbs Q) sg _ hX50 ESG.out kn.here).mono ?_
      rintro e w3 ⟨rfl, b3⟩
      have bb3 := Below.next bbn b3
      replace km := km.below b3
      replace kx := kx.below b3
      replace ko := ko.below b3
      replace oq := oq.below b3
      replace kn := kn.below b3
      have of := oq.imp (fun _ h => (OwnS.mk h : OwnS (.agg #[.bool (sg, (limbs Q)).1, .slice Aq (limbs Q).length cq]) (sg, (limbs Q)) _))
      have lf := within_up lq (Nat.le_refl _) (show _ ≤ w3.heap.size by have := aln.size; have := b2.size; have := b3.size; omega)
      have HW := Lib.hid (newS_at (r := w.heap.size + 1 + 1) of lf (by have := HKO.out; have := b1.size; have := b2.size; omega) (by omega) bb3)
      have cz0 := ko.here.cell 0 _ rfl
      have fz0 := Lib.frozen_of_heap ko.here 0
      have cz1 := ko.here.cell 1 _ rfl
      have fz1 := Lib.frozen_of_heap ko.here 1
      clear of ko kn km
      go_wp2
      refine bodyPost_ret (v := .agg #[.bool sg, .slice Aq _ cq]) (by simp [results, Tryd.results80, go_sem, cz0, cz1]; try rfl) rfl ?_
      rw [EM.out]
      exact HW.out
set_option maxHeartbeats 4000000 in
set_option maxRecDepth 100000 in
theorem implRatRound_any (vr : Value) (r : QI) (m : Int) (w : World) (hz : szQ r ≤ 1048576) (hr : OwnQ vr r w) (hsen : Sen w) :
    Calls Tryd.prog 27 #[vr, .int .i64 m] w (PostSb (roundR r m).1 (roundR r m).2 w) := by
  have HS := Lib.hid hsen
  clear hsen
  have Hr := Lib.hid hr
  obtain ⟨Ar, cr, Br, dr, rfl⟩ := ownQ_form hr
  have OQr := Lib.hid (show ∀ W, Below w.heap.size w W → OwnQ (.agg #[.bool r.1.1, .slice Ar r.1.2.length cr, .slice Br r.2.length dr]) r W from fun W hb => OwnQ.below Hr.out hb)
  have OUr := Lib.hid (show ∀ W, Below w.heap.size w W → OwnI (.slice Ar r.1.2.length cr) r.1.2 W from fun W hb => (ownQ_open (OQr.out W hb)).2.1)
  have ODr := Lib.hid (show ∀ W, Below w.heap.size w W → OwnI (.slice Br r.2.length dr) r.2 W from fun W hb => (ownQ_open (OQr.out W hb)).2.2.1)
  have OSr := Lib.hid (show ∀ W, Below w.heap.size w W → OwnS (.agg #[.bool r.1.1, .slice Ar r.1.2.length cr]) r.1 W from fun W hb => OwnS.mk (OUr.out W hb))
  clear hr
  have bb0 : Below w.heap.size w ((w.alloc (.cells #[.bool r.1.1, .slice Ar r.1.2.length cr, .slice Br r.2.length dr] 30)).alloc (.cells #[.bool false, .slice none 0 0] 28)) := below_al (below_al (Below.refl _ _) _) _
  have kr := (box_new w #[.bool r.1.1, .slice Ar r.1.2.length cr, .slice Br r.2.length dr] 30).below (below_al (Below.refl _ _) (.cells #[.bool false, .slice none 0 0] 28))
  have ko := (box_new (w.alloc (.cells #[.bool r.1.1, .slice Ar r.1.2.length cr, .slice Br r.2.length dr] 30)) #[.bool false, .slice none 0 0] 28)
  rw [show (w.alloc (.cells #[.bool r.1.1, .slice Ar r.1.2.length cr, .slice Br r.2.length dr] 30)).heap.size = w.heap.size + 1 by simp] at ko
  have HKO := Lib.hid (ko.lt (w.heap.size + 1) (by simp))
  by_cases hm : modeB m = true
  · have HM := Lib.hid hm
    have HRO := Lib.hid (roundingOf_mode m hm)
    have HQU := Lib.hid (fun (nm : ByteArray) (vx vd : Value) (x : SI) (D : Nat) (w : World) => quotient_any nm vx vd x D m w hm)
    clear hm
    generalize nameB m = nm at HRO
    generalize fnOf m = fk at HRO HQU
    go_enter Tryd.func27, Tryd.ntmps27
    go_wp2_with fail
    refine (HRO.out _).mono ?_
    rintro e w1 ⟨rfl, b1⟩
    have bb1 := Below.next bb0 b1
    replace kr := kr.below b1
    replace ko := ko.below b1
    have km := box_new (w1) #[.string nm, .func (.func fk) #[] #[]] 99
    have alm := below_al (Below.refl (w1).heap.size (w1)) (.cells #[.string nm, .func (.func fk) #[] #[]] 99)
    have bbm := Below.next bb1 alm
    replace kr := kr.below alm
    replace ko := ko.below alm
    have kr_c0 := kr.here.cell 0 _ rfl
    have kr_c1 := kr.here.cell 1 _ rfl
    have kr_c2 := kr.here.cell 2 _ rfl
    go_wp2_with fail
    clear kr_c0 kr_c1 kr_c2
    refine (implRatOk_any _ r _ hz (OQr.out _ bbm) (HS.out.below bbm)).mono ?_
    rintro e w2 ⟨rfl, b2⟩
    have bb2 := Below.next bbm b2
    replace kr := kr.below b2
    replace ko := ko.below b2
    replace km := km.below b2
    by_cases ok : okQ r = true
    · rw [ok]
      have HO := Lib.hid ok
      have HP := Lib.hid (parts_of ok)
      have hlt := roundN_lt HP.out m
      have hq0 := quot_len ok
      have HV := Lib.hid (show roundR r m = (mkS r.1.1 (quoL r.1.1 (nval r.1.2).toNat (denQ r) m), true) by
        unfold roundR
        rw [if_pos ⟨ok, HM.out⟩]
        unfold roundS
        rw [quoL_is (by
          have h1 := Nat.div_le_self (topN r) (denQ r)
          have h2 := HP.out.nlt
          have h3 : bp 18 < bp 19 := bp_step 18
          have h4 : bp 19 ≤ bp 50 := bp_mono (by omega)
          show ((topN r / denQ r : Nat) : Int) + 1 < bp 50
          omega)]
        rfl)
      obtain ⟨X, hX⟩ : ∃ X, mkS r.1.1 (quoL r.1.1 (nval r.1.2).toNat (denQ r) m) = X := ⟨_, rfl⟩
      have EX := Lib.hid hX
      rw [hX] at HV
      clear ok hX hlt hq0
      have kr_c0 := kr.here.cell 0 _ rfl
      have kr_c1 := kr.here.cell 1 _ rfl
      have kr_c2 := kr.here.cell 2 _ rfl
      have km_c0 := km.here.cell 0 _ rfl
      have km_c1 := km.here.cell 1 _ rfl
      go_wp2_with fail
      clear kr_c0 kr_c1 kr_c2 km_c0 km_c1
      refine ((HQU.out nm _ _ r.1 (denQ r) _ HP.out.okn (denQ_pos HO.out) (by have e := HP.out.d; rw [← e]; exact HP.out.d50) (OSr.out _ bb2) (ownI_eq (ODr.out _ bb2) HP.out.d) (HS.out.below bb2)).mono fun _ _ h => roundVS_eq EX.out h).mono ?_
      rintro e w3 ⟨uf, Sf, rfl, of, lf, b3⟩
      obtain ⟨Af, cf, rfl⟩ := ownS_form of.here
      have bb3 := Below.next bb2 b3
      replace kr := kr.below b3
      replace ko := ko.below b3
      replace km := km.below b3
      clear kr km
      have HW := Lib.hid (newSb_at (b := true) (r := w.heap.size + 1) of lf (by have := HKO.out; have := b1.size; have := alm.size; have := b2.size; omega) (by omega) bb3)
      have cz0 := ko.here.cell 0 _ rfl
      have fz0 := Lib.frozen_of_heap ko.here 0
      have cz1 := ko.here.cell 1 _ rfl
      have fz1 := Lib.frozen_of_heap ko.here 1
      clear of ko
      go_wp2
      refine bodyPost_ret (v := .tuple #[.agg #[.bool _, .slice Af _ cf], .bool _]) (by simp [results, Tryd.results27, go_sem, cz0, cz1]; exact ⟨⟨rfl, rfl⟩, rfl⟩) rfl ?_
      rw [HV.out]
      exact HW.out
    · have ok' : okQ r = false := by simpa using ok
      have HV := Lib.hid (show roundR r m = (zeroS, false) by unfold roundR; rw [if_neg (fun h => ok h.1)])
      rw [ok']
      clear ok ok'
      have cz0 := ko.here.cell 0 _ rfl
      have fz0 := Lib.frozen_of_heap ko.here 0
      have cz1 := ko.here.cell 1 _ rfl
      have fz1 := Lib.frozen_of_heap ko.here 1
      go_wp2
      refine bodyPost_ret (v := .tuple #[.agg #[.bool false, .slice none 0 0], .bool false]) (by simp [results, Tryd.results27, go_sem, cz0, cz1]) rfl ?_
      rw [HV.out]
      first | exact newSb_zero _ bb2 | exact newSb_zero _ (below_set2 bb2 (by omega))
  · have HRO := Lib.hid (roundingOf_none m hm)
    have HV := Lib.hid (show roundR r m = (zeroS, false) by unfold roundR; rw [if_neg (fun h => hm h.2)])
    clear hm
    go_enter Tryd.func27, Tryd.ntmps27
    go_wp2_with fail
    refine (HRO.out _).mono ?_
    rintro e w1 ⟨rfl, b1⟩
    have bb1 := Below.next bb0 b1
    replace kr := kr.below b1
    replace ko := ko.below b1
    have km := box_new (w1) #[.string ⟨#[]⟩, .nilFunc] 99
    have alm := below_al (Below.refl (w1).heap.size (w1)) (.cells #[.string ⟨#[]⟩, .nilFunc] 99)
    have bbm := Below.next bb1 alm
    replace kr := kr.below alm
    replace ko := ko.below alm
    have cz0 := ko.here.cell 0 _ rfl
    have fz0 := Lib.frozen_of_heap ko.here 0
    have cz1 := ko.here.cell 1 _ rfl
    have fz1 := Lib.frozen_of_heap ko.here 1
    go_wp2
    refine bodyPost_ret (v := .tuple #[.agg #[.bool false, .slice none 0 0], .bool false]) (by simp [results, Tryd.results27, go_sem, cz0, cz1]) rfl ?_
    rw [HV.out]
    first | exact newSb_zero _ bbm | exact newSb_zero _ (below_set2 bbm (by omega))
end Go.Proofs.YthfkdofnoomhaaaDoor

namespace Go.Proofs.YthfkdofnoomhaaaDoor
open Go.RowKit

set_option maxHeartbeats 4000000 in
set_option maxRecDepth 100000 in
theorem implDecRat_any (va : Value) (a : DI) (w : World) (hla : a.1.2.length ≤ 1048576) (ha : OwnD va a w) (hsen : Sen w) :
    Calls Tryd.prog 13 #[va] w (NewV (fun u => OwnQ u (ratD a)) w) := by
  have HS := Lib.hid hsen
  clear hsen
  have Ha := Lib.hid ha
  obtain ⟨Aa, ca, rfl⟩ := ownD_form ha
  have ODa := Lib.hid (show ∀ W, Below w.heap.size w W → OwnD (.agg #[.bool a.1.1, .slice Aa a.1.2.length ca, .int .i64 a.2]) a W from fun W hb => OwnD.below Ha.out hb)
  have OIa := Lib.hid (show ∀ W, Below w.heap.size w W → OwnI (.slice Aa a.1.2.length ca) a.1.2 W from fun W hb => ownD_open (ODa.out W hb))
  have OSa := Lib.hid (show ∀ W, Below w.heap.size w W → OwnS (.agg #[.bool a.1.1, .slice Aa a.1.2.length ca]) a.1 W from fun W hb => OwnS.mk (OIa.out W hb))
  clear ha
  have bb0 : Below w.heap.size w ((w.alloc (.cells #[.bool a.1.1, .slice Aa a.1.2.length ca, .int .i64 a.2] 33)).alloc (.cells #[.bool false, .slice none 0 0, .slice none 0 0] 30)) := below_al (below_al (Below.refl _ _) _) _
  have ka := (box_new w #[.bool a.1.1, .slice Aa a.1.2.length ca, .int .i64 a.2] 33).below (below_al (Below.refl _ _) (.cells #[.bool false, .slice none 0 0, .slice none 0 0] 30))
  have ko := (box_new (w.alloc (.cells #[.bool a.1.1, .slice Aa a.1.2.length ca, .int .i64 a.2] 33)) #[.bool false, .slice none 0 0, .slice none 0 0] 30)
  rw [show (w.alloc (.cells #[.bool a.1.1, .slice Aa a.1.2.length ca, .int .i64 a.2] 33)).heap.size = w.heap.size + 1 by simp] at ko
  have HKO := Lib.hid (ko.lt (w.heap.size + 1) (by simp))
  obtain ⟨Q, hQ⟩ : ∃ Q, ratD a = Q := ⟨_, rfl⟩
  have EQ0 := Lib.hid hQ
  rw [hQ]
  clear hQ
  go_enter Tryd.func13, Tryd.ntmps13
  have ka_c0 := ka.here.cell 0 _ rfl
  have ka_c1 := ka.here.cell 1 _ rfl
  have ka_c2 := ka.here.cell 2 _ rfl
  go_wp2_with fail
  clear ka_c0 ka_c1 ka_c2
  refine (implDecOk_any _ a _ hla (ODa.out _ bb0)).mono ?_
  rintro e w1 ⟨rfl, b1⟩
  have bb1 := Below.next bb0 b1
  replace ka := ka.below b1
  replace ko := ko.below b1
  by_cases ok : okD a = true
  · rw [ok]
    have HT := Lib.hid (ten_bd ok)
    have hl6 := (partsD ok).len
    have hzA : szS a.1 ≤ 1048576 := by unfold szS szI; omega
    have hzT := szS_ten a.2
    have EQ := Lib.hid (show makeQ a.1 (tenS a.2) = (Q, true) by rw [← EQ0.out]; exact HT.out.1)
    clear ok hl6
    have ka_c0 := ka.here.cell 0 _ rfl
    have ka_c1 := ka.here.cell 1 _ rfl
    have ka_c2 := ka.here.cell 2 _ rfl
    go_upto_region 3 with fail
    go_cut [3, 4] (fun s1 s2 wx => NewLocV 30 (fun v => OwnQ v Q) w1 s1 wx ∧ s2 = .bool true)
    case first =>
      have HC0 := Lib.hid (show Chg [] w1 w1.drew from (Chg.refl _ _).drew1)
      have HCr := Lib.hid (show Chg [] w1 w1 from Chg.refl _ _)
      have KL := Lib.hid (show ∀ W, Chg [] w1 W → W.cell? ⟨w.heap.size, 0, none⟩ = some (.bool a.1.1) ∧ W.cell? ⟨w.heap.size, 1, none⟩ = some (.slice Aa a.1.2.length ca) ∧ W.cell? ⟨w.heap.size, 2, none⟩ = some (.int .i64 a.2) ∧ Hid (Chg [] w1 W) from fun W hc => ⟨(ka.chg hc (fun i hi hm => by simp at hm)).here.cell 0 _ rfl, (ka.chg hc (fun i hi hm => by simp at hm)).here.cell 1 _ rfl, (ka.chg hc (fun i hi hm => by simp at hm)).here.cell 2 _ rfl, Lib.hid hc⟩)
      have BBF := Lib.hid (show ∀ W, Chg [] w1 W → Below w.heap.size w W from fun W hc => below_chg bb1 hc bb1.size (fun i hi => by simp at hi))
      clear ka_c0 ka_c1 ka_c2
      go_region_held3 (fun W => W.cell? ⟨w.heap.size, 0, none⟩ = some (.bool a.1.1) ∧ W.cell? ⟨w.heap.size, 1, none⟩ = some (.slice Aa a.1.2.length ca) ∧ W.cell? ⟨w.heap.size, 2, none⟩ = some (.int .i64 a.2) ∧ Hid (Chg [] w1 W))
        ((refine KL.out _ ?_; (first | exact HC3.out | exact HC2.out | exact HCr.out | exact HC0.out | exact HC3.out.drew1 | exact HC2.out.drew1 | exact HCr.out.drew1 | exact HC0.out.drew1 | exact HC3.out.trans (Chg.of_below (below_al (Below.refl _ _) _)) | exact HC2.out.trans (Chg.of_below (below_al (Below.refl _ _) _)) | exact HCr.out.trans (Chg.of_below (below_al (Below.refl _ _) _)) | exact HC0.out.trans (Chg.of_below (below_al (Below.refl _ _) _)) | exact (Chg.setNew HC3.out (by first | exact HC3.out.size | exact HC2.out.size | exact HCr.out.size | exact HC0.out.size) _) | exact (Chg.setNew (Chg.setNew HC3.out (by first | exact HC3.out.size | exact HC2.out.size | exact HCr.out.size | exact HC0.out.size) _) (by first | exact HC3.out.size | exact HC2.out.size | exact HCr.out.size | exact HC0.out.size) _) | exact (Chg.setNew (Chg.setNew (Chg.setNew HC3.out (by first | exact HC3.out.size | exact HC2.out.size | exact HCr.out.size | exact HC0.out.size) _) (by first | exact HC3.out.size | exact HC2.out.size | exact HCr.out.size | exact HC0.out.size) _) (by first | exact HC3.out.size | exact HC2.out.size | exact HCr.out.size | exact HC0.out.size) _) | fail)))
        (first
          | (go_at_call 57; (have hBB := (‹_ ∧ _ ∧ _ ∧ Hid (Chg [] w1 _)›).2.2.2); (with_reducible refine (tenTo_any a.2 _).mono ?_); rintro e w2 ⟨ut, St, rfl, ot, lt, b2⟩; have HC2 := Lib.hid (hBB.out.trans (Chg.of_below b2)); obtain ⟨At_, ct, rfl⟩ := ownS_form ot.here; (first | (have early2 : At [w1.heap.size] (BoxAt w1.heap.size #[.bool false, .slice none 0 0, .slice none 0 0] 30) w2 := At.below (box_new w1.drew _ _) b2) | (have early2 := At.below (box_new _ #[.bool false, .slice none 0 0, .slice none 0 0] 30) b2) | (have early2 := At.below early1 b2) | skip); have HBZ2 := Lib.hid hBB.out.size; clear hBB)
          | (go_at_call 56; (have hBB := (‹_ ∧ _ ∧ _ ∧ Hid (Chg [] w1 _)›).2.2.2); (with_reducible refine ((implRatMake_any _ _ a.1 (tenS a.2) _ hzA hzT (OSa.out _ (BBF.out _ hBB.out)) (At.here (by first | exact ot | exact At.below ot (below_al (Below.refl _ _) _) | exact At.below (At.below ot (below_al (Below.refl _ _) _)) (below_al (Below.refl _ _) _) | exact At.move ot (fun _ _ => rfl) (Nat.le_refl _))) (HS.out.below (BBF.out _ hBB.out))).mono fun _ _ h => postQb_isD EQ.out h).mono ?_); rintro e w3 ⟨uf, Sf, rfl, of, lf, b3⟩; have HC3 := Lib.hid (hBB.out.trans (Chg.of_below b3)); (have ot_3 := At.below (by first | exact ot | exact At.below ot (below_al (Below.refl _ _) _) | exact At.below (At.below ot (below_al (Below.refl _ _) _)) (below_al (Below.refl _ _) _) | exact At.move ot (fun _ _ => rfl) (Nat.le_refl _)) b3); obtain ⟨Af, cf, Bf, df, rfl⟩ := ownQ_form of.here; (first | have hbxg := At.below_lt (box_new _ #[.bool false, .slice none 0 0, .slice none 0 0] 30) b3 | have hbxg := At.below_lt early2 b3 | skip); (try (have hbxf := hbxg.1; have HGB := Lib.hid hbxg.2; clear hbxg)); (try (have cz0 := hbxf.here.cell 0 _ rfl; have fz0 := Lib.frozen_of_heap hbxf.here 0; have cz1 := hbxf.here.cell 1 _ rfl; have fz1 := Lib.frozen_of_heap hbxf.here 1; have cz2 := hbxf.here.cell 2 _ rfl; have fz2 := Lib.frozen_of_heap hbxf.here 2)); have HBZ3 := Lib.hid hBB.out.size; clear hBB))
      all_goals (go_wp2_with fail; go_meet; first | exact ⟨newLocV_last of lf HBZ3.out (below_of_chg HC3.out), rfl⟩ | exact ⟨newLocV_early3 hbxf.here of lf (by first | exact HC2.out.size | exact HCr.out.size | exact HC0.out.size) HGB.out (below_of_chg HC3.out), rfl⟩)
    rename World => w2
    clear ka_c0 ka_c1 ka_c2
    obtain ⟨⟨gy, csy, Sy, rfl, ky, oy, ny, ly, b2⟩, rfl⟩ := hcut
    obtain ⟨Ay, cy, By, dy, ey⟩ := ownQ_form oy.here
    injection ey with ey
    subst ey
    have bb2 := Below.next bb1 b2
    replace ka := ka.below b2
    replace ko := ko.below b2
    have HW := Lib.hid (newV_chg (φ := fun v => OwnQ v Q) (T := [w.heap.size + 1]) oy (fun i hi hm => by have := ly i (List.mem_cons_of_mem _ hi); have := HKO.out; have := b1.size; simp at hm; omega) (fun i hi => by simp at hi; omega) (fun i hi => by have := ly i (List.mem_cons_of_mem _ hi); have := HKO.out; have := b1.size; omega) bb2)
    have ky_c0 := ky.here.cell 0 _ rfl
    have ky_c1 := ky.here.cell 1 _ rfl
    have ky_c2 := ky.here.cell 2 _ rfl
    have cz0 := ko.here.cell 0 _ rfl
    have fz0 := Lib.frozen_of_heap ko.here 0
    have cz1 := ko.here.cell 1 _ rfl
    have fz1 := Lib.frozen_of_heap ko.here 1
    have cz2 := ko.here.cell 2 _ rfl
    have fz2 := Lib.frozen_of_heap ko.here 2
    clear oy ky ko ka
    go_wp2
    refine bodyPost_ret (v := .agg #[.bool _, .slice Ay _ cy, .slice By _ dy]) (by simp [results, Tryd.results13, go_sem, cz0, cz1, cz2]; exact ⟨rfl, rfl, rfl⟩) rfl ?_
    refine HW.out _ ?_
    repeat (first | exact Chg.refl _ _ | refine Chg.setCell ?_ (by simp) _)
  · have ok' : okD a = false := by simpa using ok
    have HV := Lib.hid (show Q = zeroQ from EQ0.out.symm.trans (rat_bad ok))
    rw [ok']
    clear ok ok' ka
    have cz0 := ko.here.cell 0 _ rfl
    have fz0 := Lib.frozen_of_heap ko.here 0
    have cz1 := ko.here.cell 1 _ rfl
    have fz1 := Lib.frozen_of_heap ko.here 1
    have cz2 := ko.here.cell 2 _ rfl
    have fz2 := Lib.frozen_of_heap ko.here 2
    go_wp2
    refine bodyPost_ret (v := .agg #[.bool false, .slice none 0 0, .slice none 0 0]) (by simp [results, Tryd.results13, go_sem, cz0, cz1, cz2]) rfl ?_
    rw [HV.out]
    first | exact newQ_zeroD bb1 | exact newQ_zeroD (below_set3 bb1 (by omega))
end Go.Proofs.YthfkdofnoomhaaaDoor

namespace Go.Proofs.YthfkdofnoomhaaaDoor
open Go.ChangeShapes Go.WideShapes Go.ChangeAt Go.RowKit

theorem Tryd.own : ownKnob Tryd.prog.godebug = none := by kernel_rfl
theorem Tryd.laidOut : laidOutB Tryd.prog = true := by kernel_rfl

section
variable {H : Type} {enc : TypeId × Value → H} {P : Program}

/-- the types of a list can all be read, and all lie in the program's table -/
def legible (P : Program) (ts : List TypeId) : Bool := ts.all fun t => P.readableRec t && decide (t < P.types.size)

theorem args_below (hl : laidOutB P = true) {W W' : World} (hb : Below W.heap.size W W') :
    ∀ {ts : List TypeId} {vs : List Value} {ds : List (DataW H)} {ps : List MemPlace}, legible P ts = true → DataW.TrodAll enc P W 0 (fun _ => true) true ts vs ds ps → (∀ x ∈ ps, x.block < W.heap.size) →
      DataW.TrodAll enc P W' 0 (fun b => decide (b < W.heap.size)) true ts vs ds ps
  | [], _, _, _, _, h, _ => by
    obtain ⟨rfl, rfl, rfl⟩ := trodAll_nil h
    rfl
  | t :: ts, _, _, _, hr, h, hlt => by
    obtain ⟨v, vs, d, ds, p, q, rfl, rfl, rfl, h1, h2⟩ := trodAll_cons h
    simp only [legible, List.all_cons, Bool.and_eq_true, decide_eq_true_eq] at hr
    exact ⟨p, q, Below.trod hl hr.1.1 hr.1.2 h1 hb (fun x hx => hlt x (List.mem_append_left _ hx)), args_below hl hb (by simpa only [legible] using hr.2) h2 (fun x hx => hlt x (List.mem_append_right _ hx)), rfl⟩

/-- the post of a law that lists no variable -/
theorem law_post (hl : laidOutB P = true) {f : Func} {s : ChangeSpec} {tb : TypeId} {W W' : World} {args : Array Value} {ds gs : List (DataW H)} {before : List MemPlace}
    (hr : legible P f.params.toList = true) (hty : f.resultTypes = #[tb]) (htb : P.underlying tb = some .bool) (hvars : s.vars = [])
    (hfn : s.fn H ds = { results := [.lit (.bool true)], args := ds })
    (hW : DataW.Whole enc P f.params.toList s.vars false W args.toList ds gs before) (hb : Below W.heap.size W W') :
    s.post enc P f false true false false W args (.bool true) W' := by
  have hW' := hW
  obtain ⟨p, q, hA, hV, rfl, _, _⟩ := hW
  rw [hvars] at hV
  obtain ⟨rfl, rfl⟩ := trodVars_none hV
  have hlt : ∀ x ∈ p, x.block < W.heap.size := fun x hx => hW'.lt x (by simpa using hx)
  have e : s.fn H (ds ++ []) = { results := [.lit (.bool true)], args := ds } := by rw [List.append_nil]; exact hfn
  refine ⟨ds, [], p ++ [], [], p, [], hW', ?_, ?_, ?_, hb.frame _, fun h => by cases h⟩
  · rw [e, hty]
    exact trodAll_mk1 (shut_bool htb _)
  · rw [e]
    exact args_below hl hb hr hA hlt
  · rw [e, hvars]
    rfl
end

set_option maxRecDepth 100000 in
/-- a law that lists no variable: from the walk at every argument to the lifted row -/
theorem law_lifted {H : Type} {enc : TypeId × Value → H} {os : Os} (started : os.Started) {f : FuncId} {fn : Func} {s : ChangeSpec} {conds : List PathCond} {tb : TypeId}
    (noInit : Tryd.prog.inits.idxOf? f = none) (hfun : Tryd.prog.funcs[f]? = some fn)
    (hr : legible Tryd.prog fn.params.toList = true) (hty : fn.resultTypes = #[tb]) (htb : Tryd.prog.underlying tb = some .bool) (hvars : s.vars = [])
    (witness : ∃ (w : World) (tape : Tape) (i : Input), w.os = os ∧ (w.forCall tape i).Shaped Tryd.checked.prog ∧ i.vars = [] ∧ Input.okWide Tryd.checked.prog (w.forCall tape i) .any w.heap.size f i ∧
      s.pre6 enc Tryd.checked.prog fn conds false (w.forCall tape i).memory i.args ∧ Assume.holds {} Tryd.checked.prog (lone (Frame.enter Tryd.checked.prog f i.args .normal) [] (w.forCall tape i)))
    (walk : ∀ (W : World) (base : Nat) (args : Array Value) (ds : List (DataW H)) (p : List MemPlace),
      (∀ (j : Nat) t v, fn.params[j]? = some t → args[j]? = some v → Value.okWide Tryd.prog W .any base t v) →
      DataW.TrodAll enc Tryd.prog W 0 (fun _ => true) true fn.params.toList args.toList ds p → (∀ x ∈ p, x.block < W.heap.size) → W.noneFrozen p →
      s.fn H ds = { results := [.lit (.bool true)], args := ds } ∧ Calls Tryd.prog f args W fun e W' => e = .returned (.bool true) ∧ Below W.heap.size W W') :
    ReturnsInHanded {} Tryd.checked os f .any (s.pre6 enc Tryd.prog fn conds false) (s.post enc Tryd.prog fn false true false false) := by
  refine returnsInHanded_of_change (C := Tryd.checked) Tryd.own started noInit hfun witness ?_
  intro W base args ds gs before hval hW _ _
  have hW' := hW
  obtain ⟨p, q, hA, hV, rfl, hz, _⟩ := hW
  rw [hvars] at hV
  obtain ⟨rfl, rfl⟩ := trodVars_none hV
  obtain ⟨hfn, hc⟩ := walk W base args ds p hval hA (fun x hx => hW'.lt x (by simpa using hx)) (by simpa using hz)
  refine hc.mono fun e W' ⟨he, hb⟩ => ?_
  subst he
  exact ⟨_, rfl, law_post Tryd.laidOut hr hty htb hvars hfn hW' hb⟩
end Go.Proofs.YthfkdofnoomhaaaDoor

namespace Go.Proofs.YthfkdofnoomhaaaDoor
open Go.ChangeShapes Go.WideShapes Go.ChangeAt Go.RowKit

section
variable {H : Type} {enc : TypeId × Value → H} {P : Program} {W : World} {base : Nat} {t e : TypeId} {v : Value} {d : DataW H} {p : List MemPlace}

theorem arg_strings (ht : P.underlying t = some (.slice e)) (he : P.underlying e = some .string) (hc : P.cellsOf e = 1) (hv : Value.okWide P W .any base t v) (h : DataW.Trod enc P W 0 (fun _ => true) true t v d p) :
    ∃ ss : List ByteArray, Row W 0 W.heap.size v (ss.map Value.string) ∧ ss.length ≤ maxLen ∧ ∀ s ∈ ss, s.size ≤ maxLen := by
  obtain ⟨a0, len0, cap0, rfl⟩ := okWide_slice ht hv
  obtain ⟨fuel, hf⟩ := h
  rcases open_strings ht he hc hf with ⟨hcs, _⟩ | ⟨a, len, cap, ss, hcs, _, hl, hm, hz, _, hcell, hsz⟩
  · have hcs' : Value.slice a0 len0 cap0 = .slice none 0 0 := by simpa [Value.cells] using hcs
    cases hcs'
    exact ⟨[], Row.nil_ _ _, by simp, by simp⟩
  · have hcs' : Value.slice a0 len0 cap0 = .slice (some a) len cap := by simpa [Value.cells] using hcs
    obtain ⟨rfl, rfl, rfl⟩ : a0 = some a ∧ len = len0 ∧ cap = cap0 := by cases hcs'; exact ⟨rfl, rfl, rfl⟩
    have hzl : ss.length = cap := by simpa using hz
    have hlen : (ss.take len).length = len := by rw [List.length_take]; omega
    refine ⟨ss.take len, ⟨some a, cap, by rw [List.length_map, hlen], fun j u hu => ?_⟩, by omega, fun s hs => hsz s (List.mem_of_mem_take hs)⟩
    rw [List.getElem?_map] at hu
    obtain ⟨s, hs, rfl⟩ := Option.map_eq_some_iff.1 hu
    have hj : j < len := by rw [← hlen]; exact (List.getElem?_eq_some_iff.1 hs).1
    have hs' : ss[j]? = some s := by rw [← hs, List.getElem?_take_of_lt hj]
    have hc1 := hcell j (by omega)
    rw [List.getD_eq_getElem?_getD, hs'] at hc1
    exact ⟨a, rfl, Nat.zero_le _, by have := cell_lt hc1; rwa [block_add] at this, hc1⟩

theorem arg_ints (ht : P.underlying t = some (.slice e)) (he : P.underlying e = some (.int .i64)) (hc : P.cellsOf e = 1) (hv : Value.okWide P W .any base t v) (h : DataW.Trod enc P W 0 (fun _ => true) true t v d p) :
    ∃ xs : List Int, Row W 0 W.heap.size v (xs.map (Value.int .i64)) ∧ xs.length ≤ maxLen ∧ ∀ x ∈ xs, -9223372036854775808 ≤ x ∧ x ≤ 9223372036854775807 := by
  obtain ⟨a0, len0, cap0, rfl⟩ := okWide_slice ht hv
  obtain ⟨fuel, hf⟩ := h
  rcases open_ints ht he hc hf with ⟨hcs, _⟩ | ⟨a, len, cap, ss, hcs, _, hl, hm, hz, _, hcell, hsz⟩
  · have hcs' : Value.slice a0 len0 cap0 = .slice none 0 0 := by simpa [Value.cells] using hcs
    cases hcs'
    exact ⟨[], Row.nil_ _ _, by simp, by simp⟩
  · have hcs' : Value.slice a0 len0 cap0 = .slice (some a) len cap := by simpa [Value.cells] using hcs
    obtain ⟨rfl, rfl, rfl⟩ : a0 = some a ∧ len = len0 ∧ cap = cap0 := by cases hcs'; exact ⟨rfl, rfl, rfl⟩
    have hzl : ss.length = cap := by simpa using hz
    have hlen : (ss.take len).length = len := by rw [List.length_take]; omega
    refine ⟨ss.take len, ⟨some a, cap, by rw [List.length_map, hlen], fun j u hu => ?_⟩, by omega, fun s hs => ?_⟩
    · rw [List.getElem?_map] at hu
      obtain ⟨s, hs, rfl⟩ := Option.map_eq_some_iff.1 hu
      have hj : j < len := by rw [← hlen]; exact (List.getElem?_eq_some_iff.1 hs).1
      have hs' : ss[j]? = some s := by rw [← hs, List.getElem?_take_of_lt hj]
      have hc1 := hcell j (by omega)
      rw [List.getD_eq_getElem?_getD, hs'] at hc1
      exact ⟨a, rfl, Nat.zero_le _, by have := cell_lt hc1; rwa [block_add] at this, hc1⟩
    · have := hsz s (List.mem_of_mem_take hs)
      simpa [Lit.wf, IntKind.min, IntKind.max, IntKind.signed, IntKind.bits] using this

theorem arg_bytes (ht : P.underlying t = some (.slice e)) (he : P.underlying e = some (.int .u8)) (hc : P.cellsOf e = 1) (hv : Value.okWide P W .any base t v) (h : DataW.Trod enc P W 0 (fun _ => true) true t v d p) :
    ∃ bs : List Nat, Row W 0 W.heap.size v (bs.map fun b : Nat => Value.int .u8 (b : Int)) ∧ bs.length ≤ maxLen ∧ ∀ b ∈ bs, b < 256 := by
  obtain ⟨a0, len0, cap0, rfl⟩ := okWide_slice ht hv
  obtain ⟨fuel, hf⟩ := h
  rcases open_ints ht he hc hf with ⟨hcs, _⟩ | ⟨a, len, cap, ss, hcs, _, hl, hm, hz, _, hcell, hsz⟩
  · have hcs' : Value.slice a0 len0 cap0 = .slice none 0 0 := by simpa [Value.cells] using hcs
    cases hcs'
    exact ⟨[], Row.nil_ _ _, by simp, by simp⟩
  · have hcs' : Value.slice a0 len0 cap0 = .slice (some a) len cap := by simpa [Value.cells] using hcs
    obtain ⟨rfl, rfl, rfl⟩ : a0 = some a ∧ len = len0 ∧ cap = cap0 := by cases hcs'; exact ⟨rfl, rfl, rfl⟩
    have hzl : ss.length = cap := by simpa using hz
    have hlen : (ss.take len).length = len := by rw [List.length_take]; omega
    have hr : ∀ x ∈ ss.take len, 0 ≤ x ∧ x ≤ 255 := fun x hx => by
      have := hsz x (List.mem_of_mem_take hx)
      simpa [Lit.wf, IntKind.min, IntKind.max, IntKind.signed, IntKind.bits] using this
    refine ⟨(ss.take len).map Int.toNat, ⟨some a, cap, by rw [List.length_map, List.length_map, hlen], fun j u hu => ?_⟩, by rw [List.length_map]; omega, fun s hs => ?_⟩
    · rw [List.getElem?_map, List.getElem?_map] at hu
      obtain ⟨y, hy, rfl⟩ := Option.map_eq_some_iff.1 hu
      obtain ⟨s, hs, rfl⟩ := Option.map_eq_some_iff.1 hy
      have hj : j < len := by rw [← hlen]; exact (List.getElem?_eq_some_iff.1 hs).1
      have hs' : ss[j]? = some s := by rw [← hs, List.getElem?_take_of_lt hj]
      have hc1 := hcell j (by omega)
      rw [List.getD_eq_getElem?_getD, hs'] at hc1
      have h0 := hr s (List.mem_of_getElem? hs)
      have e0 : ((s.toNat : Nat) : Int) = s := by omega
      rw [e0]
      exact ⟨a, rfl, Nat.zero_le _, by have := cell_lt hc1; rwa [block_add] at this, hc1⟩
    · obtain ⟨x, hx, rfl⟩ := List.mem_map.1 hs
      have := hr x hx
      omega
end
end Go.Proofs.YthfkdofnoomhaaaDoor

namespace Go.Proofs.YthfkdofnoomhaaaDoor
open Go.ChangeShapes Go.WideShapes Go.ChangeAt Go.RowKit Go.Joins

section
variable {H : Type} {enc : TypeId × Value → H} {P : Program} {W : World} {base : Nat} {t e : TypeId}

/-- the cell of a slice of ints, wherever it stands -/
theorem cell_ints {fuel : Nat} {a0 : Option Addr} {len0 cap0 : Nat} {x : DataW H × List MemPlace} (ht : P.underlying t = some (.slice e)) (he : P.underlying e = some (.int .i64)) (hc : P.cellsOf e = 1)
    (hf : DataW.trod enc P W 0 (fun _ => true) true fuel t [.slice a0 len0 cap0] = some x) :
    ∃ xs : List Int, Row W 0 W.heap.size (.slice a0 len0 cap0) (xs.map (Value.int .i64)) ∧ xs.length ≤ maxLen := by
  rcases open_ints ht he hc hf with ⟨hcs, _⟩ | ⟨a, len, cap, ss, hcs, _, hl, hm, hz, _, hcell, hsz⟩
  · have hcs' : Value.slice a0 len0 cap0 = .slice none 0 0 := by simpa using hcs
    cases hcs'
    exact ⟨[], Row.nil_ _ _, by simp⟩
  · have hcs' : Value.slice a0 len0 cap0 = .slice (some a) len cap := by simpa using hcs
    obtain ⟨rfl, rfl, rfl⟩ : a0 = some a ∧ len = len0 ∧ cap = cap0 := by cases hcs'; exact ⟨rfl, rfl, rfl⟩
    have hzl : ss.length = cap := by simpa using hz
    have hlen : (ss.take len).length = len := by rw [List.length_take]; omega
    refine ⟨ss.take len, ⟨some a, cap, by rw [List.length_map, hlen], fun j u hu => ?_⟩, by omega⟩
    rw [List.getElem?_map] at hu
    obtain ⟨s, hs, rfl⟩ := Option.map_eq_some_iff.1 hu
    have hj : j < len := by rw [← hlen]; exact (List.getElem?_eq_some_iff.1 hs).1
    have hs' : ss[j]? = some s := by rw [← hs, List.getElem?_take_of_lt hj]
    have hc1 := hcell j (by omega)
    rw [List.getD_eq_getElem?_getD, hs'] at hc1
    exact ⟨a, rfl, Nat.zero_le _, by have := cell_lt hc1; rwa [block_add] at this, hc1⟩
end

theorem Tryd.cellsSigned : Tryd.prog.cellsOf 24 = 2 := by kernel_rfl
theorem Tryd.cellsInt1 : Tryd.prog.cellsOf 3 = 1 := by kernel_rfl
set_option maxHeartbeats 400000 in
set_option maxRecDepth 100000 in
theorem arg_signed {H : Type} {enc : TypeId × Value → H} {W : World} {base : Nat} {v : Value} {d : DataW H} {p : List MemPlace}
    (hv : Value.okWide Tryd.prog W .any base 24 v) (h : DataW.Trod enc Tryd.prog W 0 (fun _ => true) true 24 v d p) : ∃ x : SI, RdS W v x ∧ x.2.length ≤ maxLen := by
  obtain ⟨c0, c1, y0, y1, m, rfl, rfl, rfl, hy0, hy1⟩ := open_agg2 Tryd.underlying24 (by kernel_rfl) Tryd.cellsSigned hv h
  obtain ⟨b, e0, rfl⟩ := DataW.trod_bool Tryd.underlying4 hy0
  obtain ⟨a, l, c, e1⟩ := slice_form Tryd.underlying22 hy1
  simp at e0 e1
  subst e0 e1
  obtain ⟨xs, hr, hl⟩ := cell_ints Tryd.underlying22 Tryd.underlying3 Tryd.cellsInt1 hy1
  exact ⟨(b, xs), ⟨_, rfl, hr⟩, hl⟩
end Go.Proofs.YthfkdofnoomhaaaDoor

namespace Go.Proofs.YthfkdofnoomhaaaDoor
open Go.ChangeShapes Go.WideShapes Go.ChangeAt Go.RowKit Go.Joins

theorem Tryd.cellsDec : Tryd.prog.cellsOf 26 = 3 := by kernel_rfl
set_option maxHeartbeats 400000 in
set_option maxRecDepth 100000 in
theorem arg_dec {H : Type} {enc : TypeId × Value → H} {W : World} {base : Nat} {v : Value} {d : DataW H} {p : List MemPlace}
    (hv : Value.okWide Tryd.prog W .any base 26 v) (h : DataW.Trod enc Tryd.prog W 0 (fun _ => true) true 26 v d p) : ∃ x : DI, RdD W v x ∧ x.1.2.length ≤ maxLen ∧ (-9223372036854775808 ≤ x.2 ∧ x.2 ≤ 9223372036854775807) := by
  obtain ⟨cs, rfl, hsz⟩ := okWide_struct Tryd.underlying26 hv
  obtain ⟨c0, c1, c2, rfl⟩ := array3 (hsz.trans Tryd.cellsDec)
  obtain ⟨fuel, hf⟩ := h
  obtain ⟨y0, y1, n, hx, _, h0, h1⟩ := trod_struct2 Tryd.underlying26 hf
  have k0 : Tryd.prog.cellsOf 24 = 2 := Tryd.cellsSigned
  have k1 : Tryd.prog.cellsOf 22 = 1 := by kernel_rfl
  have k2 : Tryd.prog.cellsOf 3 = 1 := Tryd.cellsInt1
  have kb : Tryd.prog.cellsOf 4 = 1 := by kernel_rfl
  simp only [Value.cells, k0, k2, List.drop_zero, List.take_succ_cons, List.take_zero, List.drop_succ_cons] at h0 h1
  obtain ⟨z0, z1, m, _, _, g0, g1⟩ := trod_struct2 Tryd.underlying24 h0
  simp only [kb, k1, List.drop_zero, List.take_succ_cons, List.take_zero, List.drop_succ_cons] at g0 g1
  obtain ⟨b, e0, _⟩ := DataW.trod_bool Tryd.underlying4 g0
  obtain ⟨a1, l1, cc1, e1⟩ := slice_form Tryd.underlying22 g1
  obtain ⟨k, e2, _, hw⟩ := DataW.trod_int Tryd.underlying3 h1
  simp at e0 e1 e2
  subst e0 e1 e2
  obtain ⟨xs, hr, hl⟩ := cell_ints Tryd.underlying22 Tryd.underlying3 Tryd.cellsInt1 g1
  exact ⟨((b, xs), k), ⟨_, rfl, hr⟩, hl, by simpa [Lit.wf, IntKind.min, IntKind.max, IntKind.signed, IntKind.bits] using hw⟩
end Go.Proofs.YthfkdofnoomhaaaDoor

namespace Go.Proofs.YthfkdofnoomhaaaDoor
open Go.ChangeShapes Go.WideShapes Go.ChangeAt Go.RowKit

theorem senNamed : Tryd.prog.globalNamed "loop.example/g00793/impl.errZeroDivisor" = some 0 := by kernel_rfl
theorem senType : (Tryd.prog.globals[0]?).map (·.type) = some 121 := by kernel_rfl
theorem senCells : Tryd.prog.cellsOf 248 = 1 := by kernel_rfl
theorem strCells : Tryd.prog.cellsOf 9 = 1 := by kernel_rfl
theorem senStar : "*" ++ "errors.errorString" = "*errors.errorString" := by decide
theorem senRow (u : TypeId) (h : Tryd.prog.typeName? 3 u = some "*errors.errorString") : u = 226 :=
  typeName_ptr_named (nm := "errors.errorString") (by rw [senStar]; kernel_rfl) (by kernel_rfl) (by decide) u (by rw [senStar]; exact h)
/-- what the sentinel reads as -/
def senText : List UInt8 := [100, 105, 118, 105, 115, 105, 111, 110, 32, 98, 121, 32, 122, 101, 114, 111]
theorem senData : (Rows.laid_loop_example_g00793_impl_errZeroDivisor : DataW Unit) = .iface "*errors.errorString" (.ptr (.agg [.lit (.string senText)])) := by kernel_rfl
/-- the variable's value -/
def SenAt (a : Addr) (w : World) : Prop := w.var? Tryd.prog "loop.example/g00793/impl.errZeroDivisor" = some #[.iface 226 (.pointer (some a))]
theorem SenAt.sen {a : Addr} {w : World} (h : SenAt a w) : Sen w := ⟨a, by simpa using World.var?_cell senNamed h 0⟩
theorem sen_of {r : List (String × DataW Unit)} {W : World} (h : laidMet Tryd.prog (("loop.example/g00793/impl.errZeroDivisor", Rows.laid_loop_example_g00793_impl_errZeroDivisor) :: r) W) : ∃ a, SenAt a W := by
  rw [senData] at h
  obtain ⟨a, s, hv, _⟩ := laid_sentinel h senNamed senType Tryd.underlying121 senRow Tryd.underlying226 Tryd.underlying248 rfl rfl Tryd.underlying9 senCells strCells
  exact ⟨a, hv⟩
theorem SenAt.below {a : Addr} {w w' : World} (h : SenAt a w) (hb : Below w.heap.size w w') : SenAt a w' := by
  obtain ⟨_, hc⟩ := h.sen
  have hl := cell_lt hc
  unfold SenAt World.var? at h ⊢
  rw [senNamed] at h ⊢
  simp only [Option.bind_some] at h ⊢
  rw [hb.block _ hl]
  exact h

/-- the post of a law that names the sentinel -/
theorem law_post1 {H : Type} {enc : TypeId × Value → H} {f : Func} {s : ChangeSpec} {tb : TypeId} {a : Addr} {W W' : World} {args : Array Value} {ds gs : List (DataW H)} {before : List MemPlace}
    (hr : legible Tryd.prog f.params.toList = true) (hty : f.resultTypes = #[tb]) (htb : Tryd.prog.underlying tb = some .bool) (hvars : s.vars = ["loop.example/g00793/impl.errZeroDivisor"])
    (hs : SenAt a W) (hfn : ∀ g, s.fn H (ds ++ [g]) = { results := [.lit (.bool true)], args := ds, vars := [g] })
    (hW : DataW.Whole enc Tryd.prog f.params.toList s.vars false W args.toList ds gs before) (hb : Below W.heap.size W W') :
    s.post enc Tryd.prog f false true false false W args (.bool true) W' := by
  have hW' := hW
  obtain ⟨p, q, hA, hV, rfl, _, _⟩ := hW
  rw [hvars] at hV
  have vr : ∀ {X : World}, SenAt a X → ∀ sp : Nat → Bool, DataW.TrodVars enc Tryd.prog X sp ["loop.example/g00793/impl.errZeroDivisor"] [tok enc (.iface 226 (.pointer (some a)))] [.cell 0 0] :=
    fun x0 sp => vars_read1 enc senNamed senType Tryd.underlying121 x0 trivial sp
  obtain ⟨rfl, rfl⟩ := hV.unique (vr hs _)
  have hlt : ∀ x ∈ p, x.block < W.heap.size := fun x hx => hW'.lt x (by simp [hx])
  refine ⟨ds, _, _, [], p, [.cell 0 0], hW', ?_, ?_, ?_, hb.frame _, fun h => by cases h⟩
  · rw [hfn, hty]
    exact trodAll_mk1 (shut_bool htb _)
  · rw [hfn]
    exact args_below Tryd.laidOut hb hr hA hlt
  · rw [hfn, hvars]
    exact vr (hs.below hb) _

/-- a world for the witness: the settled one, the listed variable holding what its initialiser lays -/
def putSen (cs : Array Value) : Obj → Obj
  | .cells _ t frozen => .cells cs t frozen
  | o => o
noncomputable def low : Nat := (World.holding Tryd.prog default ⟨#[], #[], []⟩).heap.size
noncomputable def senWorld (os : Os) : World :=
  let w0 := World.holding Tryd.prog os ⟨#[.cells #[.string ⟨senText.toArray⟩] 248], #[], []⟩
  { w0 with heap := w0.heap.modify 0 (putSen #[.iface 226 (.pointer (some ⟨low, 0, none⟩))]) }

set_option maxRecDepth 100000 in
/-- from the walk at every argument, the listed variables at hand, to the lifted row -/
theorem law_lifted_sen {H : Type} {enc : TypeId × Value → H} {os : Os} (started : os.Started) {F : Stop.Interp} {f : FuncId} {fn : Func} {s : ChangeSpec} {conds : List PathCond} {tb : TypeId} {laidL : List (String × DataW Unit)}
    (noInit : Tryd.prog.inits.idxOf? f = none) (hfun : Tryd.prog.funcs[f]? = some fn)
    (hr : legible Tryd.prog fn.params.toList = true) (hty : fn.resultTypes = #[tb]) (htb : Tryd.prog.underlying tb = some .bool) (hvars : s.vars = ["loop.example/g00793/impl.errZeroDivisor"])
    (hsen : ∀ W, laidMetH Tryd.prog laidL W → ∃ a, SenAt a W)
    (witness : ∃ (w : World) (tape : Tape) (i : Input), w.os = os ∧ (w.forCall tape i).Shaped Tryd.checked.prog ∧ i.vars = [] ∧ Input.okWide Tryd.checked.prog (w.forCall tape i) .any w.heap.size f i ∧
      (OpenSpec.ofChange s).preRow enc Tryd.checked.prog fn conds false laidL (w.forCall tape i).memory i.args ∧ Assume.holds {} Tryd.checked.prog (lone (Frame.enter Tryd.checked.prog f i.args .normal) [] (w.forCall tape i)))
    (walk : ∀ (W : World) (base : Nat) (args : Array Value) (ds : List (DataW H)) (p : List MemPlace),
      (∀ (j : Nat) t v, fn.params[j]? = some t → args[j]? = some v → Value.okWide Tryd.prog W .any base t v) →
      DataW.TrodAll enc Tryd.prog W 0 (fun _ => true) true fn.params.toList args.toList ds p → (∀ x ∈ p, x.block < W.heap.size) → laidMetH Tryd.prog laidL W → Sen W →
      (∀ g, s.fn H (ds ++ [g]) = { results := [.lit (.bool true)], args := ds, vars := [g] }) ∧ Calls Tryd.prog f args W fun e W' => e = .returned (.bool true) ∧ Below W.heap.size W W') :
    ReturnsInHanded {} Tryd.checked os f .any ((OpenSpec.ofChange s).preRow enc Tryd.prog fn conds false laidL) (((OpenSpec.ofChange s).at F).post enc Tryd.prog fn false true false false) := by
  refine returnsInHanded_of_row (C := Tryd.checked) (s := OpenSpec.ofChange s) Tryd.own started noInit hfun witness ?_
  intro W base args ds gs before hval hW0 _ _ _ hL _ _
  have hW : DataW.Whole enc Tryd.prog fn.params.toList s.vars false W args.toList ds gs before := hW0
  have hW' := hW
  obtain ⟨p, q, hA, hV, rfl, _, _⟩ := hW
  obtain ⟨a, ha⟩ := hsen W hL
  obtain ⟨hfn, hc⟩ := walk W base args ds p hval hA (fun x hx => hW'.lt x (by simp [hx])) hL ha.sen
  refine hc.mono fun e W' ⟨he, hb⟩ => ?_
  subst he
  exact ⟨_, rfl, law_post1 hr hty htb hvars ha hfn hW' hb⟩
end Go.Proofs.YthfkdofnoomhaaaDoor

namespace Go.Proofs.YthfkdofnoomhaaaDoor
open Go.RowKit

set_option maxHeartbeats 4000000 in
set_option maxRecDepth 100000 in
theorem lawRatRound_walk (va : Value) (a : QI) (m : Int) (R0 : SI) (R1 : Bool) (w : World)
    (hS : ∀ (ua : Value) (W : World), OwnQ ua a W → Calls Tryd.prog 25 #[ua, .int .i64 m] W (PostSb R0 R1 W))
    (hI : ∀ (ua : Value) (W : World), OwnQ ua a W → Sen W → Calls Tryd.prog 27 #[ua, .int .i64 m] W (PostSb R0 R1 W))
    (ht0 : Sen w) (hl : szQ a ≤ 1048576) (hlR0 : szS R0 ≤ 1048576) (ra : RdQ w va a) :
    Calls Tryd.prog 6 #[va, .int .i64 m] w fun e w' => e = .returned (.bool true) ∧ Below w.heap.size w w' := by
  have HS := Lib.hid hS
  have HI := Lib.hid hI
  clear hS hI
  have HT0 := Lib.hid ht0
  clear ht0
  have hsa := szQ_nonneg a
  have hsR0 := szS_nonneg R0
  have hza : szQ a ≤ 1048576 := by omega
  obtain ⟨Aa, ca, Ba, da, rfl⟩ := rdQ_form ra
  have bb0 : Below w.heap.size w (w.alloc (.cells #[.bool a.1.1, .slice Aa a.1.2.length ca, .slice Ba a.2.length da] 45)) := below_al (Below.refl _ _) _
  have ka := (box_new w #[.bool a.1.1, .slice Aa a.1.2.length ca, .slice Ba a.2.length da] 45)
  have RFa : Hid (∀ W, Below w.heap.size w W → RdQ W (.agg #[.bool a.1.1, .slice Aa a.1.2.length ca, .slice Ba a.2.length da]) a) := Lib.hid fun W hb => ra.below hb
  go_enter Tryd.func6, Tryd.ntmps6
  have ka_c0 := ka.here.cell 0 _ rfl
  have ka_c1 := ka.here.cell 1 _ rfl
  have ka_c2 := ka.here.cell 2 _ rfl
  go_wp2_with fail
  clear ka_c0 ka_c1 ka_c2
  refine (szQ_cal _ a (1048576) _ (capQ_of hza) (by omega) (by omega) (RFa.out _ bb0)).mono ?_
  rintro e w1 ⟨rfl, b1⟩
  rw [leftI_of (by omega)]
  have bb1 := Below.next bb0 b1
  replace ka := ka.below b1
  have hn : decide (((1048576 : Int) - szQ a : Int) < 0) = false := decide_eq_false (by omega)
  have HKa := Lib.hid (ka.lt (w.heap.size) (by simp))
  have ka_c0 := ka.here.cell 0 _ rfl
  have ka_c1 := ka.here.cell 1 _ rfl
  have ka_c2 := ka.here.cell 2 _ rfl
  go_upto_region 5 with fail
  go_cut [6, 7] (fun s t1 wx => NewLocV 28 (fun v => OwnS v R0) w1 s wx ∧ t1 = .bool R1)
  case first =>
    go_wp2_with fail
    refine (toQ_new _ a _ hza (RFa.out _ bb1)).mono ?_
    rintro e wt ⟨ut, St, rfl, ot, lt, bt⟩
    obtain ⟨At, ct, Bt, dt, rfl⟩ := ownQ_form ot.here
    go_wp2_with fail
    refine (HS.out _ _ ot.here).mono ?_
    rintro e wf ⟨uf, Sf, rfl, of, lf, bf⟩
    obtain ⟨Af, cf, rfl⟩ := ownS_form of.here
    have bwf := Below.next bt bf
    go_wp2_with fail
    go_meet
    exact ⟨newLocV_last of lf bt.size bwf, rfl⟩
  rename World => w2
  clear ka_c0 ka_c1 ka_c2
  obtain ⟨⟨gw0, csw0, Sw0, rfl, kw0, ow0, nw0, lw0, b2⟩, rfl⟩ := hcut
  obtain ⟨Aw0, cw0, ew0⟩ := ownS_form ow0.here
  injection ew0 with ew0
  subst ew0
  have bb2 := Below.next bb1 b2
  replace ka := ka.below b2
  have ka_c0 := ka.here.cell 0 _ rfl
  have ka_c1 := ka.here.cell 1 _ rfl
  have ka_c2 := ka.here.cell 2 _ rfl
  go_upto_region 6 with fail
  go_cut [8] (fun s wx => NewLocV 30 (fun v => OwnQ v a) w2 s wx)
  case first =>
    go_wp2_with fail
    refine (toQ_new _ a _ hza (RFa.out _ bb2)).mono ?_
    rintro e wt ⟨ut, St, rfl, ot, lt, bt⟩
    obtain ⟨At, ct, Bt, dt, rfl⟩ := ownQ_form ot.here
    go_wp2_with fail
    go_meet
    exact newLocV_last ot lt (Nat.le_refl _) bt
  rename World => w3
  clear ka_c0 ka_c1 ka_c2
  obtain ⟨gxa, csxa, Sxa, rfl, kxa, oxa, nxa, lxa, b3⟩ := hcut
  obtain ⟨Axa, cxa, Bxa, dxa, exa⟩ := ownQ_form oxa.here
  injection exa with exa
  subst exa
  have bb3 := Below.next bb2 b3
  replace ka := ka.below b3
  replace kw0 := kw0.below b3
  replace ow0 := ow0.below b3
  have kxa_c0 := kxa.here.cell 0 _ rfl
  have kxa_c1 := kxa.here.cell 1 _ rfl
  have kxa_c2 := kxa.here.cell 2 _ rfl
  go_upto_region 7 with fail
  go_cut [9, 10] (fun s t1 wx => NewLocV 28 (fun v => OwnS v R0) w3 s wx ∧ t1 = .bool R1)
  case first =>
    go_wp2_with fail
    refine (HI.out _ _ oxa.here (HT0.out.below bb3)).mono ?_
    rintro e wf ⟨uf, Sf, rfl, of, lf, bf⟩
    obtain ⟨Af, cf, rfl⟩ := ownS_form of.here
    go_wp2_with fail
    go_meet
    exact ⟨newLocV_last of lf (Nat.le_refl _) bf, rfl⟩
  rename World => w4
  clear kxa_c0 kxa_c1 kxa_c2
  obtain ⟨⟨gg0, csg0, Sg0, rfl, kg0, og0, ng0, lg0, b4⟩, rfl⟩ := hcut
  obtain ⟨Ag0, cg0, eg0⟩ := ownS_form og0.here
  injection eg0 with eg0
  subst eg0
  have bb4 := Below.next bb3 b4
  replace ka := ka.below b4
  replace kw0 := kw0.below b4
  replace ow0 := ow0.below b4
  replace kxa := kxa.below b4
  replace oxa := oxa.below b4
  have kg0_c0 := kg0.here.cell 0 _ rfl
  have kg0_c1 := kg0.here.cell 1 _ rfl
  have kw0_c0 := kw0.here.cell 0 _ rfl
  have kw0_c1 := kw0.here.cell 1 _ rfl
  go_wp2_with fail
  clear kg0_c0 kg0_c1 kw0_c0 kw0_c1
  refine (eqS_cal _ _ R0 R0 _ (capS_of (by omega)) (OwnS.rd og0.here) (OwnS.rd ow0.here)).mono ?_
  rintro e w5 ⟨rfl, b5⟩
  rw [decide_refl]
  have bb5 := Below.next bb4 b5
  replace ka := ka.below b5
  replace kw0 := kw0.below b5
  replace ow0 := ow0.below b5
  replace kxa := kxa.below b5
  replace oxa := oxa.below b5
  replace kg0 := kg0.below b5
  replace og0 := og0.below b5
  have ka_c0 := ka.here.cell 0 _ rfl
  have ka_c1 := ka.here.cell 1 _ rfl
  have ka_c2 := ka.here.cell 2 _ rfl
  have kxa_c0 := kxa.here.cell 0 _ rfl
  have kxa_c1 := kxa.here.cell 1 _ rfl
  have kxa_c2 := kxa.here.cell 2 _ rfl
  go_wp2_with fail
  have HB0 := Lib.hid (show Below w5.heap.size w5 w5.drew from (Below.refl _ _).drew)
  have KL := Lib.hid (show ∀ W, Below w5.heap.size w5 W → W.cell? ⟨w.heap.size, 0, none⟩ = some (.bool a.1.1) ∧ W.cell? ⟨w.heap.size, 1, none⟩ = some (.slice Aa a.1.2.length ca) ∧ W.cell? ⟨w.heap.size, 2, none⟩ = some (.slice Ba a.2.length da) ∧ W.cell? ⟨gxa, 0, none⟩ = some (.bool a.1.1) ∧ W.cell? ⟨gxa, 1, none⟩ = some (.slice Axa a.1.2.length cxa) ∧ W.cell? ⟨gxa, 2, none⟩ = some (.slice Bxa a.2.length dxa) ∧ Hid (Below w5.heap.size w5 W) from
    fun W hb => ⟨(ka.below hb).here.cell 0 _ rfl, (ka.below hb).here.cell 1 _ rfl, (ka.below hb).here.cell 2 _ rfl, (kxa.below hb).here.cell 0 _ rfl, (kxa.below hb).here.cell 1 _ rfl, (kxa.below hb).here.cell 2 _ rfl, Lib.hid hb⟩)
  have BBF := Lib.hid (show ∀ W, Below w5.heap.size w5 W → Below w.heap.size w W from fun W hb => Below.next bb5 hb)
  have OXF := Lib.hid (show ∀ W, Below w5.heap.size w5 W → OwnQ (.agg #[.bool a.1.1, .slice Axa a.1.2.length cxa, .slice Bxa a.2.length dxa]) a W from fun W hb => (oxa.below hb).here)
  clear ka_c0 ka_c1 ka_c2 kxa_c0 kxa_c1 kxa_c2
  go_region_held3 (fun W => W.cell? ⟨w.heap.size, 0, none⟩ = some (.bool a.1.1) ∧ W.cell? ⟨w.heap.size, 1, none⟩ = some (.slice Aa a.1.2.length ca) ∧ W.cell? ⟨w.heap.size, 2, none⟩ = some (.slice Ba a.2.length da) ∧ W.cell? ⟨gxa, 0, none⟩ = some (.bool a.1.1) ∧ W.cell? ⟨gxa, 1, none⟩ = some (.slice Axa a.1.2.length cxa) ∧ W.cell? ⟨gxa, 2, none⟩ = some (.slice Bxa a.2.length dxa) ∧ Hid (Below w5.heap.size w5 W))
    ((refine KL.out _ ?_; (first | exact HBe.out | exact HBt.out | exact HB0.out | fail)))
    (first
      | (go_at_call 26; (have hBB := (‹_ ∧ _ ∧ _ ∧ _ ∧ _ ∧ _ ∧ Hid (Below w5.heap.size w5 _)›).2.2.2.2.2.2); (with_reducible refine (toQ_new _ a _ hza (RFa.out _ (BBF.out _ hBB.out))).mono ?_); rintro e wt ⟨t, St, rfl, ot, lt, bt⟩; have HBt := Lib.hid (Below.next hBB.out bt); clear hBB)
      | (go_at_call 14; (have hBB := (‹_ ∧ _ ∧ _ ∧ _ ∧ _ ∧ _ ∧ Hid (Below w5.heap.size w5 _)›).2.2.2.2.2.2); (with_reducible refine (eqQ_cal _ _ a a _ (capQ_of hza) (OwnQ.rd (OXF.out _ hBB.out)) (OwnQ.rd ot.here)).mono ?_); rintro e w6 ⟨rfl, be⟩; rw [decide_refl]; have HBe := Lib.hid (Below.next hBB.out be); clear hBB))
  have b6 := HBe.out
  have bb6 := Below.next bb5 b6
  replace ka := ka.below b6
  replace kw0 := kw0.below b6
  replace ow0 := ow0.below b6
  replace kxa := kxa.below b6
  replace oxa := oxa.below b6
  replace kg0 := kg0.below b6
  replace og0 := og0.below b6
  clear HB0 KL BBF OXF HBt HBe ot lt
  have z1 := b1.size
  have z2 := b2.size
  have z3 := b3.size
  have z4 := b4.size
  have z5 := b5.size
  have z6 := b6.size
  have AP_xa_g0 := Lib.hid (Within.apart lxa lg0 (.inl (by omega)))
  have AP_w0_xa := Lib.hid (Within.apart lw0 lxa (.inl (by omega)))
  have AP_w0_g0 := Lib.hid (Within.apart lw0 lg0 (.inl (by omega)))
  have F_xa := Lib.hid (Within.from (B := w.heap.size) lxa (by have := bb1.size; omega))
  have N_xa := Lib.hid nxa
  have KX_a_xa := Lib.hid (show ∀ i ∈ [w.heap.size], i ∉ gxa :: Sxa from fun i hi hm => by have h1 := (lxa i hm).1; have h2 := HKa.out; simp at hi; omega)
  have F_g0 := Lib.hid (Within.from (B := w.heap.size) lg0 (by have := bb1.size; omega))
  have N_g0 := Lib.hid ng0
  have KX_a_g0 := Lib.hid (show ∀ i ∈ [w.heap.size], i ∉ gg0 :: Sg0 from fun i hi hm => by have h1 := (lg0 i hm).1; have h2 := HKa.out; simp at hi; omega)
  clear z1 z2 z3 z4 z5 z6
  have kxa_c0 := kxa.here.cell 0 _ rfl
  have kxa_c1 := kxa.here.cell 1 _ rfl
  have kxa_c2 := kxa.here.cell 2 _ rfl
  go_wp2_with fail
  clear kxa_c0 kxa_c1 kxa_c2
  refine (markQ_cal _ a _ (1) _ (by omega) (by omega) oxa).mono ?_
  rintro e w7 ⟨rfl, mkxa, c7⟩
  clear oxa
  have bb7 := below_chg bb6 c7 bb6.size (fun i hi => F_xa.out i (List.mem_cons_of_mem _ hi))
  replace ka := ka.chg c7 (fun i hi hm => KX_a_xa.out i hi (List.mem_cons_of_mem _ hm))
  replace kw0 := kw0.chg c7 (fun i hi hm => AP_w0_xa.out i (by simp at hi; subst hi; exact List.mem_cons_self ..) (List.mem_cons_of_mem _ hm))
  replace ow0 := ow0.chg c7 (fun i hi hm => AP_w0_xa.out i (List.mem_cons_of_mem _ hi) (List.mem_cons_of_mem _ hm))
  replace kxa := kxa.chg c7 (fun i hi hm => by simp at hi; subst hi; exact N_xa.out hm)
  replace kg0 := kg0.chg c7 (fun i hi hm => (apart_symm AP_xa_g0.out) i (by simp at hi; subst hi; exact List.mem_cons_self ..) (List.mem_cons_of_mem _ hm))
  replace og0 := og0.chg c7 (fun i hi hm => (apart_symm AP_xa_g0.out) i (List.mem_cons_of_mem _ hi) (List.mem_cons_of_mem _ hm))
  have hk : decide (((1 + szQ a) : Int) < 0) = false := decide_eq_false (by omega)
  have kg0_c0 := kg0.here.cell 0 _ rfl
  have kg0_c1 := kg0.here.cell 1 _ rfl
  have kw0_c0 := kw0.here.cell 0 _ rfl
  have kw0_c1 := kw0.here.cell 1 _ rfl
  go_wp2_with fail
  clear kg0_c0 kg0_c1 kw0_c0 kw0_c1
  refine (eqS_cal _ _ R0 R0 _ (capS_of (by omega)) (OwnS.rd og0.here) (OwnS.rd ow0.here)).mono ?_
  rintro e w8 ⟨rfl, b8⟩
  rw [decide_refl]
  have bb8 := Below.next bb7 b8
  replace ka := ka.below b8
  replace kw0 := kw0.below b8
  replace ow0 := ow0.below b8
  replace kxa := kxa.below b8
  replace kg0 := kg0.below b8
  replace og0 := og0.below b8
  replace mkxa := mkxa.below b8
  clear hk
  have kg0_c0 := kg0.here.cell 0 _ rfl
  have kg0_c1 := kg0.here.cell 1 _ rfl
  go_wp2_with fail
  clear kg0_c0 kg0_c1
  refine (markS_cal _ R0 _ (1) _ (by omega) (by omega) og0).mono ?_
  rintro e w9 ⟨rfl, mkg0, c9⟩
  clear og0
  have bb9 := below_chg bb8 c9 bb8.size (fun i hi => F_g0.out i (List.mem_cons_of_mem _ hi))
  replace ka := ka.chg c9 (fun i hi hm => KX_a_g0.out i hi (List.mem_cons_of_mem _ hm))
  replace kw0 := kw0.chg c9 (fun i hi hm => AP_w0_g0.out i (by simp at hi; subst hi; exact List.mem_cons_self ..) (List.mem_cons_of_mem _ hm))
  replace ow0 := ow0.chg c9 (fun i hi hm => AP_w0_g0.out i (List.mem_cons_of_mem _ hi) (List.mem_cons_of_mem _ hm))
  replace kxa := kxa.chg c9 (fun i hi hm => AP_xa_g0.out i (by simp at hi; subst hi; exact List.mem_cons_self ..) (List.mem_cons_of_mem _ hm))
  replace kg0 := kg0.chg c9 (fun i hi hm => by simp at hi; subst hi; exact N_g0.out hm)
  replace mkxa := mkxa.chg c9 (fun i hi hm => AP_xa_g0.out i (List.mem_cons_of_mem _ hi) (List.mem_cons_of_mem _ hm))
  have kg0_c0 := kg0.here.cell 0 _ rfl
  have kg0_c1 := kg0.here.cell 1 _ rfl
  go_wp2_with fail
  clear kg0_c0 kg0_c1
  refine (heldS_cal _ R0 (1) _ (by omega) (by omega) mkg0.here).mono ?_
  rintro e w10 ⟨rfl, b10⟩
  have bb10 := Below.next bb9 b10
  replace ka := ka.below b10
  replace kw0 := kw0.below b10
  replace ow0 := ow0.below b10
  replace kxa := kxa.below b10
  replace kg0 := kg0.below b10
  replace mkxa := mkxa.below b10
  replace mkg0 := mkg0.below b10
  have hq10 : decide ((1 : Int) + szS R0 < 0) = false := decide_eq_false (by omega)
  have ka_c0 := ka.here.cell 0 _ rfl
  have ka_c1 := ka.here.cell 1 _ rfl
  have ka_c2 := ka.here.cell 2 _ rfl
  go_upto_region 24 with fail
  go_cut [14, 15] (fun s t1 wx => NewLocV 28 (fun v => OwnS v R0) w10 s wx ∧ t1 = .bool R1)
  case first =>
    go_wp2_with fail
    refine (toQ_new _ a _ hza (RFa.out _ bb10)).mono ?_
    rintro e wt ⟨ut, St, rfl, ot, lt, bt⟩
    obtain ⟨At, ct, Bt, dt, rfl⟩ := ownQ_form ot.here
    go_wp2_with fail
    have bb_t := Below.next bb10 bt
    refine (HI.out _ _ ot.here (HT0.out.below bb_t)).mono ?_
    rintro e wf ⟨uf, Sf, rfl, of, lf, bf⟩
    obtain ⟨Af, cf, rfl⟩ := ownS_form of.here
    have bwf := Below.next bt bf
    go_wp2_with fail
    go_meet
    exact ⟨newLocV_last of lf bt.size bwf, rfl⟩
  rename World => w11
  clear ka_c0 ka_c1 ka_c2
  obtain ⟨⟨gh0, csh0, Sh0, rfl, kh0, oh0, nh0, lh0, b11⟩, rfl⟩ := hcut
  obtain ⟨Ah0, ch0, eh0⟩ := ownS_form oh0.here
  injection eh0 with eh0
  subst eh0
  have bb11 := Below.next bb10 b11
  replace ka := ka.below b11
  replace kw0 := kw0.below b11
  replace ow0 := ow0.below b11
  replace kxa := kxa.below b11
  replace kg0 := kg0.below b11
  replace mkxa := mkxa.below b11
  replace mkg0 := mkg0.below b11
  have kh0_c0 := kh0.here.cell 0 _ rfl
  have kh0_c1 := kh0.here.cell 1 _ rfl
  have kw0_c0 := kw0.here.cell 0 _ rfl
  have kw0_c1 := kw0.here.cell 1 _ rfl
  go_wp2_with fail
  clear kh0_c0 kh0_c1 kw0_c0 kw0_c1
  refine (eqS_cal _ _ R0 R0 _ (capS_of (by omega)) (OwnS.rd oh0.here) (OwnS.rd ow0.here)).mono ?_
  rintro e w12 ⟨rfl, b12⟩
  rw [decide_refl]
  have bb12 := Below.next bb11 b12
  replace ka := ka.below b12
  replace kw0 := kw0.below b12
  replace ow0 := ow0.below b12
  replace kxa := kxa.below b12
  replace kg0 := kg0.below b12
  replace mkxa := mkxa.below b12
  replace mkg0 := mkg0.below b12
  replace kh0 := kh0.below b12
  replace oh0 := oh0.below b12
  have kg0_c0 := kg0.here.cell 0 _ rfl
  have kg0_c1 := kg0.here.cell 1 _ rfl
  go_wp2_with fail
  clear kg0_c0 kg0_c1
  refine (heldS_cal _ R0 (1) _ (by omega) (by omega) mkg0.here).mono ?_
  rintro e w13 ⟨rfl, b13⟩
  have bb13 := Below.next bb12 b13
  replace ka := ka.below b13
  replace kw0 := kw0.below b13
  replace ow0 := ow0.below b13
  replace kxa := kxa.below b13
  replace kg0 := kg0.below b13
  replace mkxa := mkxa.below b13
  replace mkg0 := mkg0.below b13
  replace kh0 := kh0.below b13
  replace oh0 := oh0.below b13
  have hq13 : decide ((1 : Int) + szS R0 < 0) = false := decide_eq_false (by omega)
  go_wp2
  go_ret
  exact ⟨rfl, bb13⟩
end Go.Proofs.YthfkdofnoomhaaaDoor

namespace Go.Proofs.YthfkdofnoomhaaaDoor
open Go.ChangeShapes Go.WideShapes Go.ChangeAt Go.RowKit Go.Joins

theorem Tryd.cellsRat : Tryd.prog.cellsOf 45 = 3 := by kernel_rfl
set_option maxHeartbeats 400000 in
set_option maxRecDepth 100000 in
theorem arg_rat {H : Type} {enc : TypeId × Value → H} {W : World} {base : Nat} {v : Value} {d : DataW H} {p : List MemPlace}
    (hv : Value.okWide Tryd.prog W .any base 45 v) (h : DataW.Trod enc Tryd.prog W 0 (fun _ => true) true 45 v d p) : ∃ x : QI, RdQ W v x ∧ x.1.2.length ≤ maxLen ∧ x.2.length ≤ maxLen := by
  obtain ⟨cs, rfl, hsz⟩ := okWide_struct Tryd.underlying45 hv
  obtain ⟨c0, c1, c2, rfl⟩ := array3 (hsz.trans Tryd.cellsRat)
  obtain ⟨fuel, hf⟩ := h
  obtain ⟨y0, y1, n, hx, _, h0, h1⟩ := trod_struct2 Tryd.underlying45 hf
  have k0 : Tryd.prog.cellsOf 24 = 2 := Tryd.cellsSigned
  have k1 : Tryd.prog.cellsOf 22 = 1 := by kernel_rfl
  have kb : Tryd.prog.cellsOf 4 = 1 := by kernel_rfl
  simp only [Value.cells, k0, k1, List.drop_zero, List.take_succ_cons, List.take_zero, List.drop_succ_cons] at h0 h1
  obtain ⟨z0, z1, m, _, _, g0, g1⟩ := trod_struct2 Tryd.underlying24 h0
  simp only [kb, k1, List.drop_zero, List.take_succ_cons, List.take_zero, List.drop_succ_cons] at g0 g1
  obtain ⟨b, e0, _⟩ := DataW.trod_bool Tryd.underlying4 g0
  obtain ⟨a1, l1, cc1, e1⟩ := slice_form Tryd.underlying22 g1
  obtain ⟨a2, l2, cc2, e2⟩ := slice_form Tryd.underlying22 h1
  simp at e0 e1 e2
  subst e0 e1 e2
  obtain ⟨xs, hr, hl⟩ := cell_ints Tryd.underlying22 Tryd.underlying3 Tryd.cellsInt1 g1
  obtain ⟨ys, hs, hm⟩ := cell_ints Tryd.underlying22 Tryd.underlying3 Tryd.cellsInt1 h1
  exact ⟨((b, xs), ys), ⟨_, _, rfl, hr, hs⟩, hl, hm⟩
end Go.Proofs.YthfkdofnoomhaaaDoor

namespace Go.Proofs.YthfkdofnoomhaaaDoor
open Go.RowKit

set_option maxHeartbeats 4000000 in
set_option maxRecDepth 100000 in
theorem lawRatFloor_walk (va : Value) (a : QI) (R0 : SI) (R1 : Bool) (w : World)
    (hS : ∀ (ua : Value) (W : World), OwnQ ua a W → Calls Tryd.prog 31 #[ua] W (PostSb R0 R1 W))
    (hI : ∀ (ua : Value) (W : World), OwnQ ua a W → Sen W → Calls Tryd.prog 32 #[ua] W (PostSb R0 R1 W))
    (ht0 : Sen w) (hl : szQ a ≤ 1048576) (hlR0 : szS R0 ≤ 1048576) (ra : RdQ w va a) :
    Calls Tryd.prog 7 #[va] w fun e w' => e = .returned (.bool true) ∧ Below w.heap.size w w' := by
  have HS := Lib.hid hS
  have HI := Lib.hid hI
  clear hS hI
  have HT0 := Lib.hid ht0
  clear ht0
  have hsa := szQ_nonneg a
  have hsR0 := szS_nonneg R0
  have hza : szQ a ≤ 1048576 := by omega
  obtain ⟨Aa, ca, Ba, da, rfl⟩ := rdQ_form ra
  have bb0 : Below w.heap.size w (w.alloc (.cells #[.bool a.1.1, .slice Aa a.1.2.length ca, .slice Ba a.2.length da] 45)) := below_al (Below.refl _ _) _
  have ka := (box_new w #[.bool a.1.1, .slice Aa a.1.2.length ca, .slice Ba a.2.length da] 45)
  have RFa : Hid (∀ W, Below w.heap.size w W → RdQ W (.agg #[.bool a.1.1, .slice Aa a.1.2.length ca, .slice Ba a.2.length da]) a) := Lib.hid fun W hb => ra.below hb
  go_enter Tryd.func7, Tryd.ntmps7
  have ka_c0 := ka.here.cell 0 _ rfl
  have ka_c1 := ka.here.cell 1 _ rfl
  have ka_c2 := ka.here.cell 2 _ rfl
  go_wp2_with fail
  clear ka_c0 ka_c1 ka_c2
  refine (szQ_cal _ a (1048576) _ (capQ_of hza) (by omega) (by omega) (RFa.out _ bb0)).mono ?_
  rintro e w1 ⟨rfl, b1⟩
  rw [leftI_of (by omega)]
  have bb1 := Below.next bb0 b1
  replace ka := ka.below b1
  have hn : decide (((1048576 : Int) - szQ a : Int) < 0) = false := decide_eq_false (by omega)
  have HKa := Lib.hid (ka.lt (w.heap.size) (by simp))
  have ka_c0 := ka.here.cell 0 _ rfl
  have ka_c1 := ka.here.cell 1 _ rfl
  have ka_c2 := ka.here.cell 2 _ rfl
  go_upto_region 5 with fail
  go_cut [4, 5] (fun s t1 wx => NewLocV 28 (fun v => OwnS v R0) w1 s wx ∧ t1 = .bool R1)
  case first =>
    go_wp2_with fail
    refine (toQ_new _ a _ hza (RFa.out _ bb1)).mono ?_
    rintro e wt ⟨ut, St, rfl, ot, lt, bt⟩
    obtain ⟨At, ct, Bt, dt, rfl⟩ := ownQ_form ot.here
    go_wp2_with fail
    refine (HS.out _ _ ot.here).mono ?_
    rintro e wf ⟨uf, Sf, rfl, of, lf, bf⟩
    obtain ⟨Af, cf, rfl⟩ := ownS_form of.here
    have bwf := Below.next bt bf
    go_wp2_with fail
    go_meet
    exact ⟨newLocV_last of lf bt.size bwf, rfl⟩
  rename World => w2
  clear ka_c0 ka_c1 ka_c2
  obtain ⟨⟨gw0, csw0, Sw0, rfl, kw0, ow0, nw0, lw0, b2⟩, rfl⟩ := hcut
  obtain ⟨Aw0, cw0, ew0⟩ := ownS_form ow0.here
  injection ew0 with ew0
  subst ew0
  have bb2 := Below.next bb1 b2
  replace ka := ka.below b2
  have ka_c0 := ka.here.cell 0 _ rfl
  have ka_c1 := ka.here.cell 1 _ rfl
  have ka_c2 := ka.here.cell 2 _ rfl
  go_upto_region 6 with fail
  go_cut [6] (fun s wx => NewLocV 30 (fun v => OwnQ v a) w2 s wx)
  case first =>
    go_wp2_with fail
    refine (toQ_new _ a _ hza (RFa.out _ bb2)).mono ?_
    rintro e wt ⟨ut, St, rfl, ot, lt, bt⟩
    obtain ⟨At, ct, Bt, dt, rfl⟩ := ownQ_form ot.here
    go_wp2_with fail
    go_meet
    exact newLocV_last ot lt (Nat.le_refl _) bt
  rename World => w3
  clear ka_c0 ka_c1 ka_c2
  obtain ⟨gxa, csxa, Sxa, rfl, kxa, oxa, nxa, lxa, b3⟩ := hcut
  obtain ⟨Axa, cxa, Bxa, dxa, exa⟩ := ownQ_form oxa.here
  injection exa with exa
  subst exa
  have bb3 := Below.next bb2 b3
  replace ka := ka.below b3
  replace kw0 := kw0.below b3
  replace ow0 := ow0.below b3
  have kxa_c0 := kxa.here.cell 0 _ rfl
  have kxa_c1 := kxa.here.cell 1 _ rfl
  have kxa_c2 := kxa.here.cell 2 _ rfl
  go_upto_region 7 with fail
  go_cut [7, 8] (fun s t1 wx => NewLocV 28 (fun v => OwnS v R0) w3 s wx ∧ t1 = .bool R1)
  case first =>
    go_wp2_with fail
    refine (HI.out _ _ oxa.here (HT0.out.below bb3)).mono ?_
    rintro e wf ⟨uf, Sf, rfl, of, lf, bf⟩
    obtain ⟨Af, cf, rfl⟩ := ownS_form of.here
    go_wp2_with fail
    go_meet
    exact ⟨newLocV_last of lf (Nat.le_refl _) bf, rfl⟩
  rename World => w4
  clear kxa_c0 kxa_c1 kxa_c2
  obtain ⟨⟨gg0, csg0, Sg0, rfl, kg0, og0, ng0, lg0, b4⟩, rfl⟩ := hcut
  obtain ⟨Ag0, cg0, eg0⟩ := ownS_form og0.here
  injection eg0 with eg0
  subst eg0
  have bb4 := Below.next bb3 b4
  replace ka := ka.below b4
  replace kw0 := kw0.below b4
  replace ow0 := ow0.below b4
  replace kxa := kxa.below b4
  replace oxa := oxa.below b4
  have kg0_c0 := kg0.here.cell 0 _ rfl
  have kg0_c1 := kg0.here.cell 1 _ rfl
  have kw0_c0 := kw0.here.cell 0 _ rfl
  have kw0_c1 := kw0.here.cell 1 _ rfl
  go_wp2_with fail
  clear kg0_c0 kg0_c1 kw0_c0 kw0_c1
  refine (eqS_cal _ _ R0 R0 _ (capS_of (by omega)) (OwnS.rd og0.here) (OwnS.rd ow0.here)).mono ?_
  rintro e w5 ⟨rfl, b5⟩
  rw [decide_refl]
  have bb5 := Below.next bb4 b5
  replace ka := ka.below b5
  replace kw0 := kw0.below b5
  replace ow0 := ow0.below b5
  replace kxa := kxa.below b5
  replace oxa := oxa.below b5
  replace kg0 := kg0.below b5
  replace og0 := og0.below b5
  have ka_c0 := ka.here.cell 0 _ rfl
  have ka_c1 := ka.here.cell 1 _ rfl
  have ka_c2 := ka.here.cell 2 _ rfl
  have kxa_c0 := kxa.here.cell 0 _ rfl
  have kxa_c1 := kxa.here.cell 1 _ rfl
  have kxa_c2 := kxa.here.cell 2 _ rfl
  go_wp2_with fail
  have HB0 := Lib.hid (show Below w5.heap.size w5 w5.drew from (Below.refl _ _).drew)
  have KL := Lib.hid (show ∀ W, Below w5.heap.size w5 W → W.cell? ⟨w.heap.size, 0, none⟩ = some (.bool a.1.1) ∧ W.cell? ⟨w.heap.size, 1, none⟩ = some (.slice Aa a.1.2.length ca) ∧ W.cell? ⟨w.heap.size, 2, none⟩ = some (.slice Ba a.2.length da) ∧ W.cell? ⟨gxa, 0, none⟩ = some (.bool a.1.1) ∧ W.cell? ⟨gxa, 1, none⟩ = some (.slice Axa a.1.2.length cxa) ∧ W.cell? ⟨gxa, 2, none⟩ = some (.slice Bxa a.2.length dxa) ∧ Hid (Below w5.heap.size w5 W) from
    fun W hb => ⟨(ka.below hb).here.cell 0 _ rfl, (ka.below hb).here.cell 1 _ rfl, (ka.below hb).here.cell 2 _ rfl, (kxa.below hb).here.cell 0 _ rfl, (kxa.below hb).here.cell 1 _ rfl, (kxa.below hb).here.cell 2 _ rfl, Lib.hid hb⟩)
  have BBF := Lib.hid (show ∀ W, Below w5.heap.size w5 W → Below w.heap.size w W from fun W hb => Below.next bb5 hb)
  have OXF := Lib.hid (show ∀ W, Below w5.heap.size w5 W → OwnQ (.agg #[.bool a.1.1, .slice Axa a.1.2.length cxa, .slice Bxa a.2.length dxa]) a W from fun W hb => (oxa.below hb).here)
  clear ka_c0 ka_c1 ka_c2 kxa_c0 kxa_c1 kxa_c2
  go_region_held3 (fun W => W.cell? ⟨w.heap.size, 0, none⟩ = some (.bool a.1.1) ∧ W.cell? ⟨w.heap.size, 1, none⟩ = some (.slice Aa a.1.2.length ca) ∧ W.cell? ⟨w.heap.size, 2, none⟩ = some (.slice Ba a.2.length da) ∧ W.cell? ⟨gxa, 0, none⟩ = some (.bool a.1.1) ∧ W.cell? ⟨gxa, 1, none⟩ = some (.slice Axa a.1.2.length cxa) ∧ W.cell? ⟨gxa, 2, none⟩ = some (.slice Bxa a.2.length dxa) ∧ Hid (Below w5.heap.size w5 W))
    ((refine KL.out _ ?_; (first | exact HBe.out | exact HBt.out | exact HB0.out | fail)))
    (first
      | (go_at_call 26; (have hBB := (‹_ ∧ _ ∧ _ ∧ _ ∧ _ ∧ _ ∧ Hid (Below w5.heap.size w5 _)›).2.2.2.2.2.2); (with_reducible refine (toQ_new _ a _ hza (RFa.out _ (BBF.out _ hBB.out))).mono ?_); rintro e wt ⟨t, St, rfl, ot, lt, bt⟩; have HBt := Lib.hid (Below.next hBB.out bt); clear hBB)
      | (go_at_call 14; (have hBB := (‹_ ∧ _ ∧ _ ∧ _ ∧ _ ∧ _ ∧ Hid (Below w5.heap.size w5 _)›).2.2.2.2.2.2); (with_reducible refine (eqQ_cal _ _ a a _ (capQ_of hza) (OwnQ.rd (OXF.out _ hBB.out)) (OwnQ.rd ot.here)).mono ?_); rintro e w6 ⟨rfl, be⟩; rw [decide_refl]; have HBe := Lib.hid (Below.next hBB.out be); clear hBB))
  have b6 := HBe.out
  have bb6 := Below.next bb5 b6
  replace ka := ka.below b6
  replace kw0 := kw0.below b6
  replace ow0 := ow0.below b6
  replace kxa := kxa.below b6
  replace oxa := oxa.below b6
  replace kg0 := kg0.below b6
  replace og0 := og0.below b6
  clear HB0 KL BBF OXF HBt HBe ot lt
  have z1 := b1.size
  have z2 := b2.size
  have z3 := b3.size
  have z4 := b4.size
  have z5 := b5.size
  have z6 := b6.size
  have AP_xa_g0 := Lib.hid (Within.apart lxa lg0 (.inl (by omega)))
  have AP_w0_xa := Lib.hid (Within.apart lw0 lxa (.inl (by omega)))
  have AP_w0_g0 := Lib.hid (Within.apart lw0 lg0 (.inl (by omega)))
  have F_xa := Lib.hid (Within.from (B := w.heap.size) lxa (by have := bb1.size; omega))
  have N_xa := Lib.hid nxa
  have KX_a_xa := Lib.hid (show ∀ i ∈ [w.heap.size], i ∉ gxa :: Sxa from fun i hi hm => by have h1 := (lxa i hm).1; have h2 := HKa.out; simp at hi; omega)
  have F_g0 := Lib.hid (Within.from (B := w.heap.size) lg0 (by have := bb1.size; omega))
  have N_g0 := Lib.hid ng0
  have KX_a_g0 := Lib.hid (show ∀ i ∈ [w.heap.size], i ∉ gg0 :: Sg0 from fun i hi hm => by have h1 := (lg0 i hm).1; have h2 := HKa.out; simp at hi; omega)
  clear z1 z2 z3 z4 z5 z6
  have kxa_c0 := kxa.here.cell 0 _ rfl
  have kxa_c1 := kxa.here.cell 1 _ rfl
  have kxa_c2 := kxa.here.cell 2 _ rfl
  go_wp2_with fail
  clear kxa_c0 kxa_c1 kxa_c2
  refine (markQ_cal _ a _ (1) _ (by omega) (by omega) oxa).mono ?_
  rintro e w7 ⟨rfl, mkxa, c7⟩
  clear oxa
  have bb7 := below_chg bb6 c7 bb6.size (fun i hi => F_xa.out i (List.mem_cons_of_mem _ hi))
  replace ka := ka.chg c7 (fun i hi hm => KX_a_xa.out i hi (List.mem_cons_of_mem _ hm))
  replace kw0 := kw0.chg c7 (fun i hi hm => AP_w0_xa.out i (by simp at hi; subst hi; exact List.mem_cons_self ..) (List.mem_cons_of_mem _ hm))
  replace ow0 := ow0.chg c7 (fun i hi hm => AP_w0_xa.out i (List.mem_cons_of_mem _ hi) (List.mem_cons_of_mem _ hm))
  replace kxa := kxa.chg c7 (fun i hi hm => by simp at hi; subst hi; exact N_xa.out hm)
  replace kg0 := kg0.chg c7 (fun i hi hm => (apart_symm AP_xa_g0.out) i (by simp at hi; subst hi; exact List.mem_cons_self ..) (List.mem_cons_of_mem _ hm))
  replace og0 := og0.chg c7 (fun i hi hm => (apart_symm AP_xa_g0.out) i (List.mem_cons_of_mem _ hi) (List.mem_cons_of_mem _ hm))
  have hk : decide (((1 + szQ a) : Int) < 0) = false := decide_eq_false (by omega)
  have kg0_c0 := kg0.here.cell 0 _ rfl
  have kg0_c1 := kg0.here.cell 1 _ rfl
  have kw0_c0 := kw0.here.cell 0 _ rfl
  have kw0_c1 := kw0.here.cell 1 _ rfl
  go_wp2_with fail
  clear kg0_c0 kg0_c1 kw0_c0 kw0_c1
  refine (eqS_cal _ _ R0 R0 _ (capS_of (by omega)) (OwnS.rd og0.here) (OwnS.rd ow0.here)).mono ?_
  rintro e w8 ⟨rfl, b8⟩
  rw [decide_refl]
  have bb8 := Below.next bb7 b8
  replace ka := ka.below b8
  replace kw0 := kw0.below b8
  replace ow0 := ow0.below b8
  replace kxa := kxa.below b8
  replace kg0 := kg0.below b8
  replace og0 := og0.below b8
  replace mkxa := mkxa.below b8
  clear hk
  have kg0_c0 := kg0.here.cell 0 _ rfl
  have kg0_c1 := kg0.here.cell 1 _ rfl
  go_wp2_with fail
  clear kg0_c0 kg0_c1
  refine (markS_cal _ R0 _ (1) _ (by omega) (by omega) og0).mono ?_
  rintro e w9 ⟨rfl, mkg0, c9⟩
  clear og0
  have bb9 := below_chg bb8 c9 bb8.size (fun i hi => F_g0.out i (List.mem_cons_of_mem _ hi))
  replace ka := ka.chg c9 (fun i hi hm => KX_a_g0.out i hi (List.mem_cons_of_mem _ hm))
  replace kw0 := kw0.chg c9 (fun i hi hm => AP_w0_g0.out i (by simp at hi; subst hi; exact List.mem_cons_self ..) (List.mem_cons_of_mem _ hm))
  replace ow0 := ow0.chg c9 (fun i hi hm => AP_w0_g0.out i (List.mem_cons_of_mem _ hi) (List.mem_cons_of_mem _ hm))
  replace kxa := kxa.chg c9 (fun i hi hm => AP_xa_g0.out i (by simp at hi; subst hi; exact List.mem_cons_self ..) (List.mem_cons_of_mem _ hm))
  replace kg0 := kg0.chg c9 (fun i hi hm => by simp at hi; subst hi; exact N_g0.out hm)
  replace mkxa := mkxa.chg c9 (fun i hi hm => AP_xa_g0.out i (List.mem_cons_of_mem _ hi) (List.mem_cons_of_mem _ hm))
  have kg0_c0 := kg0.here.cell 0 _ rfl
  have kg0_c1 := kg0.here.cell 1 _ rfl
  go_wp2_with fail
  clear kg0_c0 kg0_c1
  refine (heldS_cal _ R0 (1) _ (by omega) (by omega) mkg0.here).mono ?_
  rintro e w10 ⟨rfl, b10⟩
  have bb10 := Below.next bb9 b10
  replace ka := ka.below b10
  replace kw0 := kw0.below b10
  replace ow0 := ow0.below b10
  replace kxa := kxa.below b10
  replace kg0 := kg0.below b10
  replace mkxa := mkxa.below b10
  replace mkg0 := mkg0.below b10
  have hq10 : decide ((1 : Int) + szS R0 < 0) = false := decide_eq_false (by omega)
  have ka_c0 := ka.here.cell 0 _ rfl
  have ka_c1 := ka.here.cell 1 _ rfl
  have ka_c2 := ka.here.cell 2 _ rfl
  go_upto_region 24 with fail
  go_cut [12, 13] (fun s t1 wx => NewLocV 28 (fun v => OwnS v R0) w10 s wx ∧ t1 = .bool R1)
  case first =>
    go_wp2_with fail
    refine (toQ_new _ a _ hza (RFa.out _ bb10)).mono ?_
    rintro e wt ⟨ut, St, rfl, ot, lt, bt⟩
    obtain ⟨At, ct, Bt, dt, rfl⟩ := ownQ_form ot.here
    go_wp2_with fail
    have bb_t := Below.next bb10 bt
    refine (HI.out _ _ ot.here (HT0.out.below bb_t)).mono ?_
    rintro e wf ⟨uf, Sf, rfl, of, lf, bf⟩
    obtain ⟨Af, cf, rfl⟩ := ownS_form of.here
    have bwf := Below.next bt bf
    go_wp2_with fail
    go_meet
    exact ⟨newLocV_last of lf bt.size bwf, rfl⟩
  rename World => w11
  clear ka_c0 ka_c1 ka_c2
  obtain ⟨⟨gh0, csh0, Sh0, rfl, kh0, oh0, nh0, lh0, b11⟩, rfl⟩ := hcut
  obtain ⟨Ah0, ch0, eh0⟩ := ownS_form oh0.here
  injection eh0 with eh0
  subst eh0
  have bb11 := Below.next bb10 b11
  replace ka := ka.below b11
  replace kw0 := kw0.below b11
  replace ow0 := ow0.below b11
  replace kxa := kxa.below b11
  replace kg0 := kg0.below b11
  replace mkxa := mkxa.below b11
  replace mkg0 := mkg0.below b11
  have kh0_c0 := kh0.here.cell 0 _ rfl
  have kh0_c1 := kh0.here.cell 1 _ rfl
  have kw0_c0 := kw0.here.cell 0 _ rfl
  have kw0_c1 := kw0.here.cell 1 _ rfl
  go_wp2_with fail
  clear kh0_c0 kh0_c1 kw0_c0 kw0_c1
  refine (eqS_cal _ _ R0 R0 _ (capS_of (by omega)) (OwnS.rd oh0.here) (OwnS.rd ow0.here)).mono ?_
  rintro e w12 ⟨rfl, b12⟩
  rw [decide_refl]
  have bb12 := Below.next bb11 b12
  replace ka := ka.below b12
  replace kw0 := kw0.below b12
  replace ow0 := ow0.below b12
  replace kxa := kxa.below b12
  replace kg0 := kg0.below b12
  replace mkxa := mkxa.below b12
  replace mkg0 := mkg0.below b12
  replace kh0 := kh0.below b12
  replace oh0 := oh0.below b12
  have kg0_c0 := kg0.here.cell 0 _ rfl
  have kg0_c1 := kg0.here.cell 1 _ rfl
  go_wp2_with fail
  clear kg0_c0 kg0_c1
  refine (heldS_cal _ R0 (1) _ (by omega) (by omega) mkg0.here).mono ?_
  rintro e w13 ⟨rfl, b13⟩
  have bb13 := Below.next bb12 b13
  replace ka := ka.below b13
  replace kw0 := kw0.below b13
  replace ow0 := ow0.below b13
  replace kxa := kxa.below b13
  replace kg0 := kg0.below b13
  replace mkxa := mkxa.below b13
  replace mkg0 := mkg0.below b13
  replace kh0 := kh0.below b13
  replace oh0 := oh0.below b13
  have hq13 : decide ((1 : Int) + szS R0 < 0) = false := decide_eq_false (by omega)
  go_wp2
  go_ret
  exact ⟨rfl, bb13⟩
end Go.Proofs.YthfkdofnoomhaaaDoor
