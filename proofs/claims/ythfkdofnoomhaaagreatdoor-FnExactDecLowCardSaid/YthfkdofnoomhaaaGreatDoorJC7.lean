/-
  Chapter 7 of package spec: what its functions return.
  Chapter 8 of package spec: DecAdd, DecSub, DecMul, DecCmp.
  Chapter 8 of package spec: DecRat, RatDec, DecDiv, DecAt, DecLow.
  Chapter 5 of package impl: what its functions on signed numbers return.
  Chapter 5 of package impl: products, sums and differences.
-/
import Derived.Deep.RegionHeld3
import Derived.IntWalk
import Derived.Deep.DeepCutAuto
import Derived.Deep.Cut
import Derived.Deep.CutBlock
import Derived.Test.YthfkdofnoomhaaaGreatDoorJC6
namespace Go.Proofs.YthfkdofnoomhaaaGreatDoor
open Go.RowKit

set_option maxHeartbeats 1000000 in
set_option maxRecDepth 100000 in
theorem l06Away_0 (vq vr vd : Value) (neg : Bool) (Q R D : Nat) (w : World) (_ : (limbs Q).length ≤ 50) (hr : (limbs R).length ≤ 18) (hd : (limbs D).length ≤ 18) (oq : OwnI vq (limbs Q) w) (or_ : OwnI vr (limbs R) w) (od : OwnI vd (limbs D) w) :
    Calls Tryz.prog 66 #[.bool neg, vq, vr, vd, .int .i64 0] w (Postb (awayB neg Q R D 0) w) := by
  obtain ⟨Aq, cq, rfl⟩ := own_len oq
  obtain ⟨Ar, cr, rfl⟩ := own_len or_
  obtain ⟨Ad, cd, rfl⟩ := own_len od
  have HOQ := Lib.hid oq
  have HOR := Lib.hid or_
  have HOD := Lib.hid od
  have HTW := Lib.hid (twice_len hr)
  obtain ⟨c, hc⟩ : ∃ c, cmpI ((R : Int) + R + 0) D = c := ⟨_, rfl⟩
  have HC := Lib.hid hc
  have HA := Lib.hid (away_cmp neg Q R D hc)
  have h3 : c = -1 ∨ c = 0 ∨ c = 1 := by rw [← hc]; exact cmp_three _ _
  clear hc oq or_ od
  go_enter Tryz.func66, Tryz.ntmps66
  go_wp2_with fail
  refine (specAdd_any _ _ (limbs R) (limbs R) 0 _ 0 _ _ (by omega) (by omega) (Nat.le_refl _) (Nat.le_refl _) (limbs_digN R) (limbs_digN R) HOR.out.row HOR.out.row).mono ?_
  rintro e w1 ⟨v1, rfl, o1, b1⟩
  obtain ⟨A1, c1, rfl⟩ := own_len o1
  have HO1 := Lib.hid o1
  clear o1
  go_wp2_with fail
  refine (specCmp_any _ _ (addL (limbs R) (limbs R) 0) (limbs D) _ _ _ _ _ (by have := HTW.out.1; omega) (by omega) ⟨HTW.out.2.1, HTW.out.2.2.1⟩ ⟨limbs_digN D, limbs_lastN D⟩ (Row.of_own HO1.out) (HOD.out.belowI b1).row).mono ?_
  rintro e w2 ⟨rfl, q, rfl⟩
  rw [HTW.out.2.2.2, limbs_val, HC.out]
  have bb := below_drewN b1 q
  clear h3
  go_wp2
  go_ret
  exact ⟨ret_bool (rfl), bb⟩
set_option maxHeartbeats 1000000 in
set_option maxRecDepth 100000 in
theorem l06Away_1 (vq vr vd : Value) (neg : Bool) (Q R D : Nat) (w : World) (_ : (limbs Q).length ≤ 50) (hr : (limbs R).length ≤ 18) (hd : (limbs D).length ≤ 18) (oq : OwnI vq (limbs Q) w) (or_ : OwnI vr (limbs R) w) (od : OwnI vd (limbs D) w) :
    Calls Tryz.prog 66 #[.bool neg, vq, vr, vd, .int .i64 1] w (Postb (awayB neg Q R D 1) w) := by
  obtain ⟨Aq, cq, rfl⟩ := own_len oq
  obtain ⟨Ar, cr, rfl⟩ := own_len or_
  obtain ⟨Ad, cd, rfl⟩ := own_len od
  have HOQ := Lib.hid oq
  have HOR := Lib.hid or_
  have HOD := Lib.hid od
  have HTW := Lib.hid (twice_len hr)
  obtain ⟨c, hc⟩ : ∃ c, cmpI ((R : Int) + R + 0) D = c := ⟨_, rfl⟩
  have HC := Lib.hid hc
  have HA := Lib.hid (away_cmp neg Q R D hc)
  have h3 : c = -1 ∨ c = 0 ∨ c = 1 := by rw [← hc]; exact cmp_three _ _
  clear hc oq or_ od
  go_enter Tryz.func66, Tryz.ntmps66
  go_wp2_with fail
  refine (specAdd_any _ _ (limbs R) (limbs R) 0 _ 0 _ _ (by omega) (by omega) (Nat.le_refl _) (Nat.le_refl _) (limbs_digN R) (limbs_digN R) HOR.out.row HOR.out.row).mono ?_
  rintro e w1 ⟨v1, rfl, o1, b1⟩
  obtain ⟨A1, c1, rfl⟩ := own_len o1
  have HO1 := Lib.hid o1
  clear o1
  go_wp2_with fail
  refine (specCmp_any _ _ (addL (limbs R) (limbs R) 0) (limbs D) _ _ _ _ _ (by have := HTW.out.1; omega) (by omega) ⟨HTW.out.2.1, HTW.out.2.2.1⟩ ⟨limbs_digN D, limbs_lastN D⟩ (Row.of_own HO1.out) (HOD.out.belowI b1).row).mono ?_
  rintro e w2 ⟨rfl, q, rfl⟩
  rw [HTW.out.2.2.2, limbs_val, HC.out]
  have bb := below_drewN b1 q
  clear h3
  go_wp2
  go_ret
  exact ⟨ret_bool (rfl), bb⟩
set_option maxHeartbeats 1000000 in
set_option maxRecDepth 100000 in
theorem l06Away_2 (vq vr vd : Value) (neg : Bool) (Q R D : Nat) (w : World) (_ : (limbs Q).length ≤ 50) (hr : (limbs R).length ≤ 18) (hd : (limbs D).length ≤ 18) (oq : OwnI vq (limbs Q) w) (or_ : OwnI vr (limbs R) w) (od : OwnI vd (limbs D) w) :
    Calls Tryz.prog 66 #[.bool neg, vq, vr, vd, .int .i64 2] w (Postb (awayB neg Q R D 2) w) := by
  obtain ⟨Aq, cq, rfl⟩ := own_len oq
  obtain ⟨Ar, cr, rfl⟩ := own_len or_
  obtain ⟨Ad, cd, rfl⟩ := own_len od
  have HOQ := Lib.hid oq
  have HOR := Lib.hid or_
  have HOD := Lib.hid od
  have HTW := Lib.hid (twice_len hr)
  obtain ⟨c, hc⟩ : ∃ c, cmpI ((R : Int) + R + 0) D = c := ⟨_, rfl⟩
  have HC := Lib.hid hc
  have HA := Lib.hid (away_cmp neg Q R D hc)
  have h3 : c = -1 ∨ c = 0 ∨ c = 1 := by rw [← hc]; exact cmp_three _ _
  clear hc oq or_ od
  go_enter Tryz.func66, Tryz.ntmps66
  go_wp2_with fail
  refine (specAdd_any _ _ (limbs R) (limbs R) 0 _ 0 _ _ (by omega) (by omega) (Nat.le_refl _) (Nat.le_refl _) (limbs_digN R) (limbs_digN R) HOR.out.row HOR.out.row).mono ?_
  rintro e w1 ⟨v1, rfl, o1, b1⟩
  obtain ⟨A1, c1, rfl⟩ := own_len o1
  have HO1 := Lib.hid o1
  clear o1
  go_wp2_with fail
  refine (specCmp_any _ _ (addL (limbs R) (limbs R) 0) (limbs D) _ _ _ _ _ (by have := HTW.out.1; omega) (by omega) ⟨HTW.out.2.1, HTW.out.2.2.1⟩ ⟨limbs_digN D, limbs_lastN D⟩ (Row.of_own HO1.out) (HOD.out.belowI b1).row).mono ?_
  rintro e w2 ⟨rfl, q, rfl⟩
  rw [HTW.out.2.2.2, limbs_val, HC.out]
  have bb := below_drewN b1 q
  clear h3
  go_wp2
  go_ret
  exact ⟨ret_bool (rfl), bb⟩
set_option maxHeartbeats 1000000 in
set_option maxRecDepth 100000 in
theorem l06Away_3 (vq vr vd : Value) (neg : Bool) (Q R D : Nat) (w : World) (_ : (limbs Q).length ≤ 50) (hr : (limbs R).length ≤ 18) (hd : (limbs D).length ≤ 18) (oq : OwnI vq (limbs Q) w) (or_ : OwnI vr (limbs R) w) (od : OwnI vd (limbs D) w) :
    Calls Tryz.prog 66 #[.bool neg, vq, vr, vd, .int .i64 3] w (Postb (awayB neg Q R D 3) w) := by
  obtain ⟨Aq, cq, rfl⟩ := own_len oq
  obtain ⟨Ar, cr, rfl⟩ := own_len or_
  obtain ⟨Ad, cd, rfl⟩ := own_len od
  have HOQ := Lib.hid oq
  have HOR := Lib.hid or_
  have HOD := Lib.hid od
  have HTW := Lib.hid (twice_len hr)
  obtain ⟨c, hc⟩ : ∃ c, cmpI ((R : Int) + R + 0) D = c := ⟨_, rfl⟩
  have HC := Lib.hid hc
  have HA := Lib.hid (away_cmp neg Q R D hc)
  have h3 : c = -1 ∨ c = 0 ∨ c = 1 := by rw [← hc]; exact cmp_three _ _
  clear hc oq or_ od
  go_enter Tryz.func66, Tryz.ntmps66
  go_wp2_with fail
  refine (specAdd_any _ _ (limbs R) (limbs R) 0 _ 0 _ _ (by omega) (by omega) (Nat.le_refl _) (Nat.le_refl _) (limbs_digN R) (limbs_digN R) HOR.out.row HOR.out.row).mono ?_
  rintro e w1 ⟨v1, rfl, o1, b1⟩
  obtain ⟨A1, c1, rfl⟩ := own_len o1
  have HO1 := Lib.hid o1
  clear o1
  go_wp2_with fail
  refine (specCmp_any _ _ (addL (limbs R) (limbs R) 0) (limbs D) _ _ _ _ _ (by have := HTW.out.1; omega) (by omega) ⟨HTW.out.2.1, HTW.out.2.2.1⟩ ⟨limbs_digN D, limbs_lastN D⟩ (Row.of_own HO1.out) (HOD.out.belowI b1).row).mono ?_
  rintro e w2 ⟨rfl, q, rfl⟩
  rw [HTW.out.2.2.2, limbs_val, HC.out]
  have bb := below_drewN b1 q
  clear h3
  go_wp2
  go_ret
  exact ⟨ret_bool (rfl), bb⟩
set_option maxHeartbeats 1000000 in
set_option maxRecDepth 100000 in
theorem l06Away_4 (vq vr vd : Value) (neg : Bool) (Q R D : Nat) (w : World) (_ : (limbs Q).length ≤ 50) (hr : (limbs R).length ≤ 18) (hd : (limbs D).length ≤ 18) (oq : OwnI vq (limbs Q) w) (or_ : OwnI vr (limbs R) w) (od : OwnI vd (limbs D) w) :
    Calls Tryz.prog 66 #[.bool neg, vq, vr, vd, .int .i64 4] w (Postb (awayB neg Q R D 4) w) := by
  obtain ⟨Aq, cq, rfl⟩ := own_len oq
  obtain ⟨Ar, cr, rfl⟩ := own_len or_
  obtain ⟨Ad, cd, rfl⟩ := own_len od
  have HOQ := Lib.hid oq
  have HOR := Lib.hid or_
  have HOD := Lib.hid od
  have HTW := Lib.hid (twice_len hr)
  obtain ⟨c, hc⟩ : ∃ c, cmpI ((R : Int) + R + 0) D = c := ⟨_, rfl⟩
  have HC := Lib.hid hc
  have HA := Lib.hid (away_cmp neg Q R D hc)
  have h3 : c = -1 ∨ c = 0 ∨ c = 1 := by rw [← hc]; exact cmp_three _ _
  clear hc oq or_ od
  go_enter Tryz.func66, Tryz.ntmps66
  go_wp2_with fail
  refine (specAdd_any _ _ (limbs R) (limbs R) 0 _ 0 _ _ (by omega) (by omega) (Nat.le_refl _) (Nat.le_refl _) (limbs_digN R) (limbs_digN R) HOR.out.row HOR.out.row).mono ?_
  rintro e w1 ⟨v1, rfl, o1, b1⟩
  obtain ⟨A1, c1, rfl⟩ := own_len o1
  have HO1 := Lib.hid o1
  clear o1
  go_wp2_with fail
  refine (specCmp_any _ _ (addL (limbs R) (limbs R) 0) (limbs D) _ _ _ _ _ (by have := HTW.out.1; omega) (by omega) ⟨HTW.out.2.1, HTW.out.2.2.1⟩ ⟨limbs_digN D, limbs_lastN D⟩ (Row.of_own HO1.out) (HOD.out.belowI b1).row).mono ?_
  rintro e w2 ⟨rfl, q, rfl⟩
  rw [HTW.out.2.2.2, limbs_val, HC.out]
  have bb := below_drewN b1 q
  clear h3
  go_wp2
  go_ret
  exact ⟨ret_bool HA.out.1.symm, bb⟩
set_option maxHeartbeats 1000000 in
set_option maxRecDepth 100000 in
theorem l06Away_5 (vq vr vd : Value) (neg : Bool) (Q R D : Nat) (w : World) (_ : (limbs Q).length ≤ 50) (hr : (limbs R).length ≤ 18) (hd : (limbs D).length ≤ 18) (oq : OwnI vq (limbs Q) w) (or_ : OwnI vr (limbs R) w) (od : OwnI vd (limbs D) w) :
    Calls Tryz.prog 66 #[.bool neg, vq, vr, vd, .int .i64 5] w (Postb (awayB neg Q R D 5) w) := by
  obtain ⟨Aq, cq, rfl⟩ := own_len oq
  obtain ⟨Ar, cr, rfl⟩ := own_len or_
  obtain ⟨Ad, cd, rfl⟩ := own_len od
  have HOQ := Lib.hid oq
  have HOR := Lib.hid or_
  have HOD := Lib.hid od
  have HTW := Lib.hid (twice_len hr)
  obtain ⟨c, hc⟩ : ∃ c, cmpI ((R : Int) + R + 0) D = c := ⟨_, rfl⟩
  have HC := Lib.hid hc
  have HA := Lib.hid (away_cmp neg Q R D hc)
  have h3 : c = -1 ∨ c = 0 ∨ c = 1 := by rw [← hc]; exact cmp_three _ _
  clear hc oq or_ od
  go_enter Tryz.func66, Tryz.ntmps66
  go_wp2_with fail
  refine (specAdd_any _ _ (limbs R) (limbs R) 0 _ 0 _ _ (by omega) (by omega) (Nat.le_refl _) (Nat.le_refl _) (limbs_digN R) (limbs_digN R) HOR.out.row HOR.out.row).mono ?_
  rintro e w1 ⟨v1, rfl, o1, b1⟩
  obtain ⟨A1, c1, rfl⟩ := own_len o1
  have HO1 := Lib.hid o1
  clear o1
  go_wp2_with fail
  refine (specCmp_any _ _ (addL (limbs R) (limbs R) 0) (limbs D) _ _ _ _ _ (by have := HTW.out.1; omega) (by omega) ⟨HTW.out.2.1, HTW.out.2.2.1⟩ ⟨limbs_digN D, limbs_lastN D⟩ (Row.of_own HO1.out) (HOD.out.belowI b1).row).mono ?_
  rintro e w2 ⟨rfl, q, rfl⟩
  rw [HTW.out.2.2.2, limbs_val, HC.out]
  have bb := below_drewN b1 q
  clear h3
  go_wp2
  go_ret
  exact ⟨ret_bool HA.out.2.1.symm, bb⟩
set_option maxHeartbeats 1000000 in
set_option maxRecDepth 100000 in
theorem l06Away_6 (vq vr vd : Value) (neg : Bool) (Q R D : Nat) (w : World) (hq : (limbs Q).length ≤ 50) (hr : (limbs R).length ≤ 18) (hd : (limbs D).length ≤ 18) (oq : OwnI vq (limbs Q) w) (or_ : OwnI vr (limbs R) w) (od : OwnI vd (limbs D) w) :
    Calls Tryz.prog 66 #[.bool neg, vq, vr, vd, .int .i64 6] w (Postb (awayB neg Q R D 6) w) := by
  obtain ⟨Aq, cq, rfl⟩ := own_len oq
  obtain ⟨Ar, cr, rfl⟩ := own_len or_
  obtain ⟨Ad, cd, rfl⟩ := own_len od
  have HOQ := Lib.hid oq
  have HOR := Lib.hid or_
  have HOD := Lib.hid od
  have HTW := Lib.hid (twice_len hr)
  obtain ⟨c, hc⟩ : ∃ c, cmpI ((R : Int) + R + 0) D = c := ⟨_, rfl⟩
  have HC := Lib.hid hc
  have HA := Lib.hid (away_cmp neg Q R D hc)
  have h3 : c = -1 ∨ c = 0 ∨ c = 1 := by rw [← hc]; exact cmp_three _ _
  clear hc oq or_ od
  go_enter Tryz.func66, Tryz.ntmps66
  go_wp2_with fail
  refine (specAdd_any _ _ (limbs R) (limbs R) 0 _ 0 _ _ (by omega) (by omega) (Nat.le_refl _) (Nat.le_refl _) (limbs_digN R) (limbs_digN R) HOR.out.row HOR.out.row).mono ?_
  rintro e w1 ⟨v1, rfl, o1, b1⟩
  obtain ⟨A1, c1, rfl⟩ := own_len o1
  have HO1 := Lib.hid o1
  clear o1
  go_wp2_with fail
  refine (specCmp_any _ _ (addL (limbs R) (limbs R) 0) (limbs D) _ _ _ _ _ (by have := HTW.out.1; omega) (by omega) ⟨HTW.out.2.1, HTW.out.2.2.1⟩ ⟨limbs_digN D, limbs_lastN D⟩ (Row.of_own HO1.out) (HOD.out.belowI b1).row).mono ?_
  rintro e w2 ⟨rfl, q, rfl⟩
  rw [HTW.out.2.2.2, limbs_val, HC.out]
  have bb := below_drewN b1 q
  rcases h3 with rfl | rfl | rfl
  · go_wp2
    go_ret
    exact ⟨ret_bool (HA.out.2.2.trans (by simp)).symm, bb⟩
  · have he : decide (Q % 2 = 1) = !decide (Q % 2 = 0) := by rcases Nat.mod_two_eq_zero_or_one Q with h | h <;> rw [h] <;> rfl
    have HV := Lib.hid (show awayB neg Q R D 6 = !decide (Q % 2 = 0) by rw [HA.out.2.2, he]; rfl)
    clear he HA
    go_wp2_with fail
    refine (specNatEven_any _ (limbs Q) 0 _ _ (by omega) (HOQ.out.belowI (below_drewN b1 q)).row).mono ?_
    rintro e w3 ⟨rfl, rfl⟩
    rw [even_limbs hq]
    generalize decide (Q % 2 = 0) = b at *
    cases b
    · go_wp2
      go_ret
      exact ⟨ret_bool HV.out.symm, bb⟩
    · go_wp2
      go_ret
      exact ⟨ret_bool HV.out.symm, bb⟩
  · go_wp2
    go_ret
    exact ⟨ret_bool (HA.out.2.2.trans (by simp)).symm, bb⟩
theorem l06Away_any (vq vr vd : Value) (neg : Bool) (Q R D : Nat) (w : World) (hq : (limbs Q).length ≤ 50) (hr : (limbs R).length ≤ 18) (hd : (limbs D).length ≤ 18) (oq : OwnI vq (limbs Q) w) (or_ : OwnI vr (limbs R) w) (od : OwnI vd (limbs D) w) (m : Int) (hm : modeB m = true) :
    Calls Tryz.prog 66 #[.bool neg, vq, vr, vd, .int .i64 m] w (Postb (awayB neg Q R D m) w) := by
  rcases modeB_cases hm with rfl | rfl | rfl | rfl | rfl | rfl | rfl
  · exact l06Away_0 vq vr vd neg Q R D w hq hr hd oq or_ od
  · exact l06Away_1 vq vr vd neg Q R D w hq hr hd oq or_ od
  · exact l06Away_2 vq vr vd neg Q R D w hq hr hd oq or_ od
  · exact l06Away_3 vq vr vd neg Q R D w hq hr hd oq or_ od
  · exact l06Away_4 vq vr vd neg Q R D w hq hr hd oq or_ od
  · exact l06Away_5 vq vr vd neg Q R D w hq hr hd oq or_ od
  · exact l06Away_6 vq vr vd neg Q R D w hq hr hd oq or_ od
set_option maxHeartbeats 2000000 in
set_option maxRecDepth 100000 in
theorem l06Round_any (vr : Value) (r : QI) (m : Int) (w : World) (ok : okQ r = true) (hm : modeB m = true) (hr : OwnQ vr r w) :
    Calls Tryz.prog 119 #[vr, .int .i64 m] w (NewV (fun u => OwnS u (roundS r m)) w) := by
  have Hr := Lib.hid hr
  obtain ⟨Ar, cr, Br, dr, rfl⟩ := ownQ_form hr
  have OQr := Lib.hid (show ∀ W, Below w.heap.size w W → OwnQ (.agg #[.bool r.1.1, .slice Ar r.1.2.length cr, .slice Br r.2.length dr]) r W from fun W hb => OwnQ.below Hr.out hb)
  have OUr := Lib.hid (show ∀ W, Below w.heap.size w W → OwnI (.slice Ar r.1.2.length cr) r.1.2 W from fun W hb => (ownQ_open (OQr.out W hb)).2.1)
  have ODr := Lib.hid (show ∀ W, Below w.heap.size w W → OwnI (.slice Br r.2.length dr) r.2 W from fun W hb => (ownQ_open (OQr.out W hb)).2.2.1)
  have OSr := Lib.hid (show ∀ W, Below w.heap.size w W → OwnS (.agg #[.bool r.1.1, .slice Ar r.1.2.length cr]) r.1 W from fun W hb => OwnS.mk (OUr.out W hb))
  clear hr
  have HP := Lib.hid (parts_of ok)
  have HOK := Lib.hid ok
  have HM := Lib.hid hm
  clear ok hm
  have bb0 : Below w.heap.size w ((w.alloc (.cells #[.bool r.1.1, .slice Ar r.1.2.length cr, .slice Br r.2.length dr] 34)).alloc (.cells #[.bool false, .slice none 0 0] 28)) := below_al (below_al (Below.refl _ _) _) _
  have kr := (box_new w #[.bool r.1.1, .slice Ar r.1.2.length cr, .slice Br r.2.length dr] 34).below (below_al (Below.refl _ _) (.cells #[.bool false, .slice none 0 0] 28))
  have ko := (box_new (w.alloc (.cells #[.bool r.1.1, .slice Ar r.1.2.length cr, .slice Br r.2.length dr] 34)) #[.bool false, .slice none 0 0] 28)
  rw [show (w.alloc (.cells #[.bool r.1.1, .slice Ar r.1.2.length cr, .slice Br r.2.length dr] 34)).heap.size = w.heap.size + 1 by simp] at ko
  have HKO := Lib.hid (ko.lt (w.heap.size + 1) (by simp))
  obtain ⟨Q, hQ⟩ : ∃ Q, topN r / denQ r = Q := ⟨_, rfl⟩
  obtain ⟨R, hR⟩ : ∃ R, topN r % denQ r = R := ⟨_, rfl⟩
  have EQ := Lib.hid hQ
  have ER := Lib.hid hR
  have hql : (limbs Q).length ≤ 18 := by rw [← hQ]; exact quot_len HOK.out
  have hrl : (limbs R).length ≤ 18 := by rw [← hR]; exact rest_len HOK.out
  have hnl := HP.out.n50
  have hdl := HP.out.d50
  have hdv : ∀ W, Below w.heap.size w W → Calls Tryz.prog 65 #[.slice Ar r.1.2.length cr, .slice Br r.2.length dr] W (TwoRows (limbs Q) (limbs R) W) := fun W hb => by
    have h := specDiv_any _ _ r.1.2 r.2 0 _ 0 _ W (by omega) (by omega) (okQ_parts HOK.out).2.2.1 (Nat.le_refl _) (Nat.le_refl _) (natOk_parts (okS_parts HP.out.okn).1).1 ⟨(natOk_parts HP.out.okd).1, (natOk_parts HP.out.okd).2.2⟩ (OUr.out _ hb).row (ODr.out _ hb).row
    rw [quot_of HOK.out, rest_of HOK.out, hQ, hR] at h
    exact h
  have HDV := Lib.hid hdv
  clear hdv hQ hR
  go_enter Tryz.func119, Tryz.ntmps119
  have kr_c0 := kr.here.cell 0 _ rfl
  have kr_c1 := kr.here.cell 1 _ rfl
  have kr_c2 := kr.here.cell 2 _ rfl
  go_wp2_with fail
  clear kr_c0 kr_c1 kr_c2
  refine (HDV.out _ bb0).mono ?_
  rintro e w1 ⟨vq, vr_, rfl, oq0, or0, hqr, b1⟩
  obtain ⟨Aq, cq, rfl⟩ := own_len oq0
  obtain ⟨As, cs, rfl⟩ := own_len or0
  have oq := own_at' oq0
  have os := own_at' or0
  clear oq0 or0 hqr
  have bb1 := Below.next bb0 b1
  replace kr := kr.below b1
  replace ko := ko.below b1
  by_cases h0 : R = 0
  · have HV := Lib.hid (show mkS r.1.1 (trimL (limbs Q)) = roundS r m by rw [trimL_limbs, ← EQ.out]; exact round_plain (.inl (ER.out.trans h0)))
    subst h0
    rw [show (limbs 0).length = 0 by rw [limbs_zero]; rfl] at *
    clear os
    have kr_c0 := kr.here.cell 0 _ rfl
    have kr_c1 := kr.here.cell 1 _ rfl
    have kr_c2 := kr.here.cell 2 _ rfl
    go_wp2_with fail
    clear kr_c0 kr_c1 kr_c2
    refine ((l04Make_any _ _ (limbs Q) _ _ (by omega) (At.here oq)).mono fun _ _ h => roundVS_eq HV.out (NewS.newV h)).mono ?_
    rintro e w2 ⟨uf, Sf, rfl, of, lf, b2⟩
    obtain ⟨Af, cf, rfl⟩ := ownS_form of.here
    have bb2 := Below.next bb1 b2
    replace kr := kr.below b2
    replace ko := ko.below b2
    replace oq := oq.below b2
    have HW := Lib.hid (newS_at (r := w.heap.size + 1) of lf (by have := HKO.out; have := b1.size; omega) (by omega) bb2)
    have cz0 := ko.here.cell 0 _ rfl
    have fz0 := Lib.frozen_of_heap ko.here 0
    have cz1 := ko.here.cell 1 _ rfl
    have fz1 := Lib.frozen_of_heap ko.here 1
    clear of ko
    go_wp2
    refine bodyPost_ret (v := .agg #[.bool _, .slice Af _ cf]) (by simp [results, Tryz.results119, go_sem, cz0, cz1]; exact ⟨rfl, rfl⟩) rfl ?_
    exact HW.out
  · have hlen : ((limbs R).length : Int) > 0 := by have := mt (limbs_zero_iff R).1 h0; omega
    have H0 := Lib.hid h0
    clear h0
    have kr_c0 := kr.here.cell 0 _ rfl
    have kr_c1 := kr.here.cell 1 _ rfl
    have kr_c2 := kr.here.cell 2 _ rfl
    go_wp2_with fail
    clear kr_c0 kr_c1 kr_c2
    refine (l06Away_any _ _ _ r.1.1 Q R (denQ r) _ (by omega) hrl (by have := HP.out.d50; have e := HP.out.d; rw [← e]; exact (okQ_parts HOK.out).2.2.2.1) oq.here os.here (ownI_eq (ODr.out _ bb1) HP.out.d) m HM.out).mono ?_
    rintro e w2 ⟨rfl, b2⟩
    have bb2 := Below.next bb1 b2
    replace kr := kr.below b2
    replace ko := ko.below b2
    replace oq := oq.below b2
    replace os := os.below b2
    by_cases ha : awayB r.1.1 Q R (denQ r) m = true
    · have HV := Lib.hid (show mkS r.1.1 (trimL (addL (limbs Q) [1] 0)) = roundS r m by rw [one_more, ← EQ.out]; exact round_more (by rw [ER.out]; exact H0.out) (by rw [EQ.out, ER.out]; exact ha))
      rw [ha]
      clear ha
      have o1 := World.ownsRow_lit (base := w2.heap.size) (e := 3) (size := 1) w2 #[.int .i64 1] 1 (Nat.le_refl _) (by unfold maxLen; omega) rfl
      have HO1 := Lib.hid o1
      clear o1
      have kt := box_new (w2) #[.int .i64 1] 3
      have alt := below_al (Below.refl (w2).heap.size (w2)) (.cells #[.int .i64 1] 3)
      have bbt := Below.next bb2 alt
      replace kr := kr.below alt
      replace ko := ko.below alt
      replace oq := oq.below alt
      replace os := os.below alt
      go_wp2_with fail
      refine (specAdd_any _ _ (limbs Q) [1] 0 _ _ _ _ (by omega) (by decide) (Nat.le_refl _) (Nat.le_refl _) (limbs_digN Q) (by rw [← one_limbs]; exact limbs_digN 1) oq.here.row (Row.of_own HO1.out)).mono ?_
      rintro e w3 ⟨vs, rfl, osum0, b3⟩
      obtain ⟨Az, cz, rfl⟩ := own_len osum0
      have osum := own_at' osum0
      clear osum0
      have bb3 := Below.next bbt b3
      replace kr := kr.below b3
      replace ko := ko.below b3
      replace oq := oq.below b3
      replace os := os.below b3
      replace kt := kt.below b3
      have hsl : (addL (limbs Q) [1] 0).length ≤ 1048576 := by have := (addL_val (limbs Q) [1] 0 (limbs_digN Q) (by rw [← one_limbs]; exact limbs_digN 1) (by omega) (by omega)).2.2; simp only [List.length_cons, List.length_nil] at this; omega
      clear oq os kt
      have kr_c0 := kr.here.cell 0 _ rfl
      have kr_c1 := kr.here.cell 1 _ rfl
      have kr_c2 := kr.here.cell 2 _ rfl
      go_wp2_with fail
      clear kr_c0 kr_c1 kr_c2
      refine ((l04Make_any _ _ (addL (limbs Q) [1] 0) _ _ (hsl) (At.here osum)).mono fun _ _ h => roundVS_eq HV.out (NewS.newV h)).mono ?_
      rintro e w4 ⟨uf, Sf, rfl, of, lf, b4⟩
      obtain ⟨Af, cf, rfl⟩ := ownS_form of.here
      have bb4 := Below.next bb3 b4
      replace kr := kr.below b4
      replace ko := ko.below b4
      replace osum := osum.below b4
      have HW := Lib.hid (newS_at (r := w.heap.size + 1) of lf (by have := HKO.out; have := b1.size; have := b2.size; have := b3.size; have := alt.size; omega) (by omega) bb4)
      have cz0 := ko.here.cell 0 _ rfl
      have fz0 := Lib.frozen_of_heap ko.here 0
      have cz1 := ko.here.cell 1 _ rfl
      have fz1 := Lib.frozen_of_heap ko.here 1
      clear of ko
      go_wp2
      refine bodyPost_ret (v := .agg #[.bool _, .slice Af _ cf]) (by simp [results, Tryz.results119, go_sem, cz0, cz1]; exact ⟨rfl, rfl⟩) rfl ?_
      exact HW.out
    · have ha' : awayB r.1.1 Q R (denQ r) m = false := by simpa using ha
      have HV := Lib.hid (show mkS r.1.1 (trimL (limbs Q)) = roundS r m by rw [trimL_limbs, ← EQ.out]; exact round_plain (.inr (by rw [EQ.out, ER.out]; exact ha')))
      rw [ha']
      clear ha ha' os
      have kr_c0 := kr.here.cell 0 _ rfl
      have kr_c1 := kr.here.cell 1 _ rfl
      have kr_c2 := kr.here.cell 2 _ rfl
      go_wp2_with fail
      clear kr_c0 kr_c1 kr_c2
      refine ((l04Make_any _ _ (limbs Q) _ _ (by omega) (At.here oq)).mono fun _ _ h => roundVS_eq HV.out (NewS.newV h)).mono ?_
      rintro e w3 ⟨uf, Sf, rfl, of, lf, b3⟩
      obtain ⟨Af, cf, rfl⟩ := ownS_form of.here
      have bb3 := Below.next bb2 b3
      replace kr := kr.below b3
      replace ko := ko.below b3
      replace oq := oq.below b3
      have HW := Lib.hid (newS_at (r := w.heap.size + 1) of lf (by have := HKO.out; have := b1.size; have := b2.size; omega) (by omega) bb3)
      have cz0 := ko.here.cell 0 _ rfl
      have fz0 := Lib.frozen_of_heap ko.here 0
      have cz1 := ko.here.cell 1 _ rfl
      have fz1 := Lib.frozen_of_heap ko.here 1
      clear of ko
      go_wp2
      refine bodyPost_ret (v := .agg #[.bool _, .slice Af _ cf]) (by simp [results, Tryz.results119, go_sem, cz0, cz1]; exact ⟨rfl, rfl⟩) rfl ?_
      exact HW.out
set_option maxHeartbeats 2000000 in
set_option maxRecDepth 100000 in
theorem specRatRound_any (vr : Value) (r : QI) (m : Int) (w : World) (hz : szQ r ≤ 1048576) (hr : OwnQ vr r w) :
    Calls Tryz.prog 111 #[vr, .int .i64 m] w (PostSb (roundR r m).1 (roundR r m).2 w) := by
  have Hr := Lib.hid hr
  obtain ⟨Ar, cr, Br, dr, rfl⟩ := ownQ_form hr
  have OQr := Lib.hid (show ∀ W, Below w.heap.size w W → OwnQ (.agg #[.bool r.1.1, .slice Ar r.1.2.length cr, .slice Br r.2.length dr]) r W from fun W hb => OwnQ.below Hr.out hb)
  have OUr := Lib.hid (show ∀ W, Below w.heap.size w W → OwnI (.slice Ar r.1.2.length cr) r.1.2 W from fun W hb => (ownQ_open (OQr.out W hb)).2.1)
  have ODr := Lib.hid (show ∀ W, Below w.heap.size w W → OwnI (.slice Br r.2.length dr) r.2 W from fun W hb => (ownQ_open (OQr.out W hb)).2.2.1)
  have OSr := Lib.hid (show ∀ W, Below w.heap.size w W → OwnS (.agg #[.bool r.1.1, .slice Ar r.1.2.length cr]) r.1 W from fun W hb => OwnS.mk (OUr.out W hb))
  clear hr
  have bb0 : Below w.heap.size w ((w.alloc (.cells #[.bool r.1.1, .slice Ar r.1.2.length cr, .slice Br r.2.length dr] 34)).alloc (.cells #[.bool false, .slice none 0 0] 28)) := below_al (below_al (Below.refl _ _) _) _
  have kr := (box_new w #[.bool r.1.1, .slice Ar r.1.2.length cr, .slice Br r.2.length dr] 34).below (below_al (Below.refl _ _) (.cells #[.bool false, .slice none 0 0] 28))
  have ko := (box_new (w.alloc (.cells #[.bool r.1.1, .slice Ar r.1.2.length cr, .slice Br r.2.length dr] 34)) #[.bool false, .slice none 0 0] 28)
  rw [show (w.alloc (.cells #[.bool r.1.1, .slice Ar r.1.2.length cr, .slice Br r.2.length dr] 34)).heap.size = w.heap.size + 1 by simp] at ko
  have HKO := Lib.hid (ko.lt (w.heap.size + 1) (by simp))
  go_enter Tryz.func111, Tryz.ntmps111
  have kr_c0 := kr.here.cell 0 _ rfl
  have kr_c1 := kr.here.cell 1 _ rfl
  have kr_c2 := kr.here.cell 2 _ rfl
  go_wp2_with fail
  clear kr_c0 kr_c1 kr_c2
  refine (specRatOk_any _ r _ hz (OQr.out _ bb0)).mono ?_
  rintro e w1 ⟨rfl, b1⟩
  have bb1 := Below.next bb0 b1
  replace kr := kr.below b1
  replace ko := ko.below b1
  by_cases ok : okQ r = true
  · rw [ok]
    have HO := Lib.hid ok
    clear ok
    go_wp2_with fail
    refine (l06Mode_any m _).mono ?_
    rintro e w2 ⟨rfl, b2⟩
    have bb2 := Below.next bb1 b2
    replace kr := kr.below b2
    replace ko := ko.below b2
    by_cases hm : modeB m = true
    · rw [hm]
      have HM := Lib.hid hm
      have HV := Lib.hid (show roundR r m = (roundS r m, true) by unfold roundR; rw [if_pos ⟨HO.out, hm⟩])
      clear hm
      have kr_c0 := kr.here.cell 0 _ rfl
      have kr_c1 := kr.here.cell 1 _ rfl
      have kr_c2 := kr.here.cell 2 _ rfl
      go_wp2_with fail
      clear kr_c0 kr_c1 kr_c2
      refine (l06Round_any _ r m _ HO.out HM.out (OQr.out _ bb2)).mono ?_
      rintro e w3 ⟨uf, Sf, rfl, of, lf, b3⟩
      obtain ⟨Af, cf, rfl⟩ := ownS_form of.here
      have bb3 := Below.next bb2 b3
      replace kr := kr.below b3
      replace ko := ko.below b3
      have HW := Lib.hid (newSb_at (b := true) (r := w.heap.size + 1) of lf (by have := HKO.out; have := b1.size; have := b2.size; omega) (by omega) bb3)
      have cz0 := ko.here.cell 0 _ rfl
      have fz0 := Lib.frozen_of_heap ko.here 0
      have cz1 := ko.here.cell 1 _ rfl
      have fz1 := Lib.frozen_of_heap ko.here 1
      clear of ko
      go_wp2
      refine bodyPost_ret (v := .tuple #[.agg #[.bool _, .slice Af _ cf], .bool _]) (by simp [results, Tryz.results111, go_sem, cz0, cz1]; exact ⟨⟨rfl, rfl⟩, rfl⟩) rfl ?_
      rw [HV.out]
      exact HW.out
    · have hm' : modeB m = false := by simpa using hm
      have HV := Lib.hid (show roundR r m = (zeroS, false) by unfold roundR; rw [if_neg (fun h => hm h.2)])
      rw [hm']
      clear hm hm'
      have cz0 := ko.here.cell 0 _ rfl
      have fz0 := Lib.frozen_of_heap ko.here 0
      have cz1 := ko.here.cell 1 _ rfl
      have fz1 := Lib.frozen_of_heap ko.here 1
      go_wp2
      refine bodyPost_ret (v := .tuple #[.agg #[.bool false, .slice none 0 0], .bool false]) (by simp [results, Tryz.results111, go_sem, cz0, cz1]) rfl ?_
      rw [HV.out]
      first | exact newSb_zero _ bb2 | exact newSb_zero _ (below_set2 bb2 (by omega))
  · have ok' : okQ r = false := by simpa using ok
    have HV := Lib.hid (show roundR r m = (zeroS, false) by unfold roundR; rw [if_neg (fun h => ok h.1)])
    rw [ok']
    clear ok ok'
    have cz0 := ko.here.cell 0 _ rfl
    have fz0 := Lib.frozen_of_heap ko.here 0
    have cz1 := ko.here.cell 1 _ rfl
    have fz1 := Lib.frozen_of_heap ko.here 1
    go_wp2
    refine bodyPost_ret (v := .tuple #[.agg #[.bool false, .slice none 0 0], .bool false]) (by simp [results, Tryz.results111, go_sem, cz0, cz1]) rfl ?_
    rw [HV.out]
    first | exact newSb_zero _ bb1 | exact newSb_zero _ (below_set2 bb1 (by omega))
end Go.Proofs.YthfkdofnoomhaaaGreatDoor

namespace Go.Proofs.YthfkdofnoomhaaaGreatDoor
open Go.RowKit

/-- what a call answers: two new signed numbers (and an int) -/
def PostSS (X Y : SI) (w : World) (e : Ending) (w' : World) : Prop :=
  ∃ (u v : Value) (S T : List Nat), e = .returned (.tuple #[u, v]) ∧ At S (OwnS u X) w' ∧ At T (OwnS v Y) w' ∧ Within S w.heap.size w'.heap.size ∧ Within T w.heap.size w'.heap.size ∧ Below w.heap.size w w'
def PostSSn (X Y : SI) (n : Int) (w : World) (e : Ending) (w' : World) : Prop :=
  ∃ (u v : Value) (S T : List Nat), e = .returned (.tuple #[u, v, .int .i64 n]) ∧ At S (OwnS u X) w' ∧ At T (OwnS v Y) w' ∧ Within S w.heap.size w'.heap.size ∧ Within T w.heap.size w'.heap.size ∧ Below w.heap.size w w'
theorem postSSn_chg {S T R : List Nat} {u v : Value} {X Y : SI} {n : Int} {w W : World} (o : At S (OwnS u X) W) (q : At T (OwnS v Y) W) (hS : ∀ i ∈ S, i ∉ R) (hT : ∀ i ∈ T, i ∉ R) (hR : ∀ i ∈ R, w.heap.size ≤ i) (lS : ∀ i ∈ S, w.heap.size ≤ i) (lT : ∀ i ∈ T, w.heap.size ≤ i) (hW : Below w.heap.size w W) :
    ∀ W', Chg R W W' → PostSSn X Y n w (.returned (.tuple #[u, v, .int .i64 n])) W' :=
  fun _ hc => ⟨u, v, S, T, rfl, o.chg hc hS, q.chg hc hT, fun i hi => ⟨lS i hi, Nat.lt_of_lt_of_le (o.lt i hi) hc.size⟩, fun i hi => ⟨lT i hi, Nat.lt_of_lt_of_le (q.lt i hi) hc.size⟩, below_chg hW hc hW.size hR⟩
theorem postSS_chg {S T R : List Nat} {u v : Value} {X Y : SI} {w W : World} (o : At S (OwnS u X) W) (q : At T (OwnS v Y) W) (hS : ∀ i ∈ S, i ∉ R) (hT : ∀ i ∈ T, i ∉ R) (hR : ∀ i ∈ R, w.heap.size ≤ i) (lS : ∀ i ∈ S, w.heap.size ≤ i) (lT : ∀ i ∈ T, w.heap.size ≤ i) (hW : Below w.heap.size w W) :
    ∀ W', Chg R W W' → PostSS X Y w (.returned (.tuple #[u, v])) W' :=
  fun _ hc => ⟨u, v, S, T, rfl, o.chg hc hS, q.chg hc hT, fun i hi => ⟨lS i hi, Nat.lt_of_lt_of_le (o.lt i hi) hc.size⟩, fun i hi => ⟨lT i hi, Nat.lt_of_lt_of_le (q.lt i hi) hc.size⟩, below_chg hW hc hW.size hR⟩
theorem newVS_eqD {x y : SI} (h : x = y) {w w' : World} {e : Ending} (k : NewV (fun v => OwnS v x) w e w') : NewV (fun v => OwnS v y) w e w' := h ▸ k
theorem newS_is {x y : SI} (h : x = y) {w w' : World} {e : Ending} (k : NewS x w e w') : NewV (fun v => OwnS v y) w e w' := by subst h; exact k.newV
/-- a number at the greater scale -/
def upS (a : DI) (s : Int) : SI := mulS a.1 (tenS (s - a.2))
theorem upS_len (a : DI) (s : Int) : (upS a s).2.length ≤ 50 := by unfold upS mulS; split; exact ofZ_len _; decide
theorem tenS_len (k : Int) : (tenS k).2.length ≤ 1048576 := by have := tenN_len k; show (tenN k).length ≤ _; omega
theorem topD_max (a b : DI) : max a.2 b.2 = topD a b := by unfold topD; split <;> omega
theorem topD_lt {a b : DI} (h : a.2 < b.2) : topD a b = b.2 := if_pos h
theorem topD_ge {a b : DI} (h : ¬ a.2 < b.2) : topD a b = a.2 := if_neg h
end Go.Proofs.YthfkdofnoomhaaaGreatDoor

namespace Go.Proofs.YthfkdofnoomhaaaGreatDoor
open Go.RowKit

theorem postQb_isD {q : QI × Bool} {X : QI} {b : Bool} (e : q = (X, b)) {w w' : World} {n : Ending} (h : PostQb q.1 q.2 w n w') : PostQb X b w n w' := by rw [e] at h; exact h
theorem newQ_zeroD {w W : World} (hW : Below w.heap.size w W) : NewV (fun v => OwnQ v zeroQ) w (.returned (.agg #[.bool false, .slice none 0 0, .slice none 0 0])) W :=
  ⟨_, [], rfl, ⟨ownQ_zero _, fun _ hg => absurd hg List.not_mem_nil, fun w' _ => ownQ_zero w'⟩, fun _ hg => absurd hg List.not_mem_nil, hW⟩
theorem szS_ten (k : Int) : szS (tenS k) ≤ 1048576 := by have := tenN_len k; show ((tenN k).length : Int) ≤ _; omega
theorem szS_num {a : DI} (h : a.1.2.length ≤ 1048575) : szS a.1 ≤ 1048576 := by unfold szS szI; omega
theorem newI_eqD {a b : List Int} {w w' : World} {e : Ending} (h : NewInts a w e w') (h1 : a = b) : NewInts b w e w' := by subst h1; exact h
theorem divQ_szD (x y : QI) : szQ (divQ x y).1 ≤ 1048576 := by unfold divQ; split; exact lowQ_sz _ _ _; decide
theorem newVQ_eq {a b : QI} (e : a = b) {w w' : World} {n : Ending} (h : NewV (fun v => OwnQ v a) w n w') : NewV (fun v => OwnQ v b) w n w' := e ▸ h
set_option maxHeartbeats 4000000 in
set_option maxRecDepth 100000 in
theorem specDecRat_any (va : Value) (a : DI) (w : World) (hla : a.1.2.length ≤ 1048576) (ha : OwnD va a w) :
    Calls Tryz.prog 80 #[va] w (NewV (fun u => OwnQ u (ratD a)) w) := by
  have Ha := Lib.hid ha
  obtain ⟨Aa, ca, rfl⟩ := ownD_form ha
  have ODa := Lib.hid (show ∀ W, Below w.heap.size w W → OwnD (.agg #[.bool a.1.1, .slice Aa a.1.2.length ca, .int .i64 a.2]) a W from fun W hb => OwnD.below Ha.out hb)
  have OIa := Lib.hid (show ∀ W, Below w.heap.size w W → OwnI (.slice Aa a.1.2.length ca) a.1.2 W from fun W hb => ownD_open (ODa.out W hb))
  have OSa := Lib.hid (show ∀ W, Below w.heap.size w W → OwnS (.agg #[.bool a.1.1, .slice Aa a.1.2.length ca]) a.1 W from fun W hb => OwnS.mk (OIa.out W hb))
  clear ha
  have bb0 : Below w.heap.size w ((w.alloc (.cells #[.bool a.1.1, .slice Aa a.1.2.length ca, .int .i64 a.2] 30)).alloc (.cells #[.bool false, .slice none 0 0, .slice none 0 0] 34)) := below_al (below_al (Below.refl _ _) _) _
  have ka := (box_new w #[.bool a.1.1, .slice Aa a.1.2.length ca, .int .i64 a.2] 30).below (below_al (Below.refl _ _) (.cells #[.bool false, .slice none 0 0, .slice none 0 0] 34))
  have ko := (box_new (w.alloc (.cells #[.bool a.1.1, .slice Aa a.1.2.length ca, .int .i64 a.2] 30)) #[.bool false, .slice none 0 0, .slice none 0 0] 34)
  rw [show (w.alloc (.cells #[.bool a.1.1, .slice Aa a.1.2.length ca, .int .i64 a.2] 30)).heap.size = w.heap.size + 1 by simp] at ko
  have HKO := Lib.hid (ko.lt (w.heap.size + 1) (by simp))
  obtain ⟨Q, hQ⟩ : ∃ Q, ratD a = Q := ⟨_, rfl⟩
  have EQ0 := Lib.hid hQ
  rw [hQ]
  clear hQ
  go_enter Tryz.func80, Tryz.ntmps80
  have ka_c0 := ka.here.cell 0 _ rfl
  have ka_c1 := ka.here.cell 1 _ rfl
  have ka_c2 := ka.here.cell 2 _ rfl
  go_wp2_with fail
  clear ka_c0 ka_c1 ka_c2
  refine (specDecOk_any _ a _ hla (ODa.out _ bb0)).mono ?_
  rintro e w1 ⟨rfl, b1⟩
  have bb1 := Below.next bb0 b1
  replace ka := ka.below b1
  replace ko := ko.below b1
  by_cases ok : okD a = true
  · rw [ok]
    have HT := Lib.hid (ten_bd ok)
    have hl6 := (partsD ok).len
    have hzA : szS a.1 ≤ 1048576 := by unfold szS szI; omega
    have hzT := szS_ten a.2
    have EQ := Lib.hid (show makeQ a.1 (tenS a.2) = (Q, true) by rw [← EQ0.out]; exact HT.out.1)
    clear ok hl6
    have ka_c0 := ka.here.cell 0 _ rfl
    have ka_c1 := ka.here.cell 1 _ rfl
    have ka_c2 := ka.here.cell 2 _ rfl
    go_upto_region 3 with fail
    go_cut [3, 4] (fun s1 s2 wx => NewLocV 34 (fun v => OwnQ v Q) w1 s1 wx ∧ s2 = .bool true)
    case first =>
      have HC0 := Lib.hid (show Chg [] w1 w1.drew from (Chg.refl _ _).drew1)
      have HCr := Lib.hid (show Chg [] w1 w1 from Chg.refl _ _)
      have KL := Lib.hid (show ∀ W, Chg [] w1 W → W.cell? ⟨w.heap.size, 0, none⟩ = some (.bool a.1.1) ∧ W.cell? ⟨w.heap.size, 1, none⟩ = some (.slice Aa a.1.2.length ca) ∧ W.cell? ⟨w.heap.size, 2, none⟩ = some (.int .i64 a.2) ∧ Hid (Chg [] w1 W) from fun W hc => ⟨(ka.chg hc (fun i hi hm => by simp at hm)).here.cell 0 _ rfl, (ka.chg hc (fun i hi hm => by simp at hm)).here.cell 1 _ rfl, (ka.chg hc (fun i hi hm => by simp at hm)).here.cell 2 _ rfl, Lib.hid hc⟩)
      have BBF := Lib.hid (show ∀ W, Chg [] w1 W → Below w.heap.size w W from fun W hc => below_chg bb1 hc bb1.size (fun i hi => by simp at hi))
      clear ka_c0 ka_c1 ka_c2
      go_region_held3 (fun W => W.cell? ⟨w.heap.size, 0, none⟩ = some (.bool a.1.1) ∧ W.cell? ⟨w.heap.size, 1, none⟩ = some (.slice Aa a.1.2.length ca) ∧ W.cell? ⟨w.heap.size, 2, none⟩ = some (.int .i64 a.2) ∧ Hid (Chg [] w1 W))
        ((refine KL.out _ ?_; (first | exact HC3.out | exact HC2.out | exact HCr.out | exact HC0.out | exact HC3.out.drew1 | exact HC2.out.drew1 | exact HCr.out.drew1 | exact HC0.out.drew1 | exact HC3.out.trans (Chg.of_below (below_al (Below.refl _ _) _)) | exact HC2.out.trans (Chg.of_below (below_al (Below.refl _ _) _)) | exact HCr.out.trans (Chg.of_below (below_al (Below.refl _ _) _)) | exact HC0.out.trans (Chg.of_below (below_al (Below.refl _ _) _)) | exact (Chg.setNew HC3.out (by first | exact HC3.out.size | exact HC2.out.size | exact HCr.out.size | exact HC0.out.size) _) | exact (Chg.setNew (Chg.setNew HC3.out (by first | exact HC3.out.size | exact HC2.out.size | exact HCr.out.size | exact HC0.out.size) _) (by first | exact HC3.out.size | exact HC2.out.size | exact HCr.out.size | exact HC0.out.size) _) | exact (Chg.setNew (Chg.setNew (Chg.setNew HC3.out (by first | exact HC3.out.size | exact HC2.out.size | exact HCr.out.size | exact HC0.out.size) _) (by first | exact HC3.out.size | exact HC2.out.size | exact HCr.out.size | exact HC0.out.size) _) (by first | exact HC3.out.size | exact HC2.out.size | exact HCr.out.size | exact HC0.out.size) _) | fail)))
        (first
          | (go_at_call 84; (have hBB := (‹_ ∧ _ ∧ _ ∧ Hid (Chg [] w1 _)›).2.2.2); (with_reducible refine (l07Ten_any a.2 _).mono ?_); rintro e w2 ⟨ut, St, rfl, ot, lt, b2⟩; have HC2 := Lib.hid (hBB.out.trans (Chg.of_below b2)); obtain ⟨At_, ct, rfl⟩ := ownS_form ot.here; (first | (have early2 : At [w1.heap.size] (BoxAt w1.heap.size #[.bool false, .slice none 0 0, .slice none 0 0] 34) w2 := At.below (box_new w1.drew _ _) b2) | (have early2 := At.below (box_new _ #[.bool false, .slice none 0 0, .slice none 0 0] 34) b2) | (have early2 := At.below early1 b2) | skip); have HBZ2 := Lib.hid hBB.out.size; clear hBB)
          | (go_at_call 117; (have hBB := (‹_ ∧ _ ∧ _ ∧ Hid (Chg [] w1 _)›).2.2.2); (with_reducible refine ((specRatMake_any _ _ a.1 (tenS a.2) _ hzA hzT (OSa.out _ (BBF.out _ hBB.out)) (At.here (by first | exact ot | exact At.below ot (below_al (Below.refl _ _) _) | exact At.below (At.below ot (below_al (Below.refl _ _) _)) (below_al (Below.refl _ _) _) | exact At.move ot (fun _ _ => rfl) (Nat.le_refl _)))).mono fun _ _ h => postQb_isD EQ.out h).mono ?_); rintro e w3 ⟨uf, Sf, rfl, of, lf, b3⟩; have HC3 := Lib.hid (hBB.out.trans (Chg.of_below b3)); (have ot_3 := At.below (by first | exact ot | exact At.below ot (below_al (Below.refl _ _) _) | exact At.below (At.below ot (below_al (Below.refl _ _) _)) (below_al (Below.refl _ _) _) | exact At.move ot (fun _ _ => rfl) (Nat.le_refl _)) b3); obtain ⟨Af, cf, Bf, df, rfl⟩ := ownQ_form of.here; (first | have hbxg := At.below_lt (box_new _ #[.bool false, .slice none 0 0, .slice none 0 0] 34) b3 | have hbxg := At.below_lt early2 b3 | skip); (try (have hbxf := hbxg.1; have HGB := Lib.hid hbxg.2; clear hbxg)); (try (have cz0 := hbxf.here.cell 0 _ rfl; have fz0 := Lib.frozen_of_heap hbxf.here 0; have cz1 := hbxf.here.cell 1 _ rfl; have fz1 := Lib.frozen_of_heap hbxf.here 1; have cz2 := hbxf.here.cell 2 _ rfl; have fz2 := Lib.frozen_of_heap hbxf.here 2)); have HBZ3 := Lib.hid hBB.out.size; clear hBB))
      all_goals (go_wp2_with fail; go_meet; first | exact ⟨newLocV_last of lf HBZ3.out (below_of_chg HC3.out), rfl⟩ | exact ⟨newLocV_early3 hbxf.here of lf (by first | exact HC2.out.size | exact HCr.out.size | exact HC0.out.size) HGB.out (below_of_chg HC3.out), rfl⟩)
    rename World => w2
    clear ka_c0 ka_c1 ka_c2
    obtain ⟨⟨gy, csy, Sy, rfl, ky, oy, ny, ly, b2⟩, rfl⟩ := hcut
    obtain ⟨Ay, cy, By, dy, ey⟩ := ownQ_form oy.here
    injection ey with ey
    subst ey
    have bb2 := Below.next bb1 b2
    replace ka := ka.below b2
    replace ko := ko.below b2
    have HW := Lib.hid (newV_chg (φ := fun v => OwnQ v Q) (T := [w.heap.size + 1]) oy (fun i hi hm => by have := ly i (List.mem_cons_of_mem _ hi); have := HKO.out; have := b1.size; simp at hm; omega) (fun i hi => by simp at hi; omega) (fun i hi => by have := ly i (List.mem_cons_of_mem _ hi); have := HKO.out; have := b1.size; omega) bb2)
    have ky_c0 := ky.here.cell 0 _ rfl
    have ky_c1 := ky.here.cell 1 _ rfl
    have ky_c2 := ky.here.cell 2 _ rfl
    have cz0 := ko.here.cell 0 _ rfl
    have fz0 := Lib.frozen_of_heap ko.here 0
    have cz1 := ko.here.cell 1 _ rfl
    have fz1 := Lib.frozen_of_heap ko.here 1
    have cz2 := ko.here.cell 2 _ rfl
    have fz2 := Lib.frozen_of_heap ko.here 2
    clear oy ky ko ka
    go_wp2
    refine bodyPost_ret (v := .agg #[.bool _, .slice Ay _ cy, .slice By _ dy]) (by simp [results, Tryz.results80, go_sem, cz0, cz1, cz2]; exact ⟨rfl, rfl, rfl⟩) rfl ?_
    refine HW.out _ ?_
    repeat (first | exact Chg.refl _ _ | refine Chg.setCell ?_ (by simp) _)
  · have ok' : okD a = false := by simpa using ok
    have HV := Lib.hid (show Q = zeroQ from EQ0.out.symm.trans (rat_bad ok))
    rw [ok']
    clear ok ok' ka
    have cz0 := ko.here.cell 0 _ rfl
    have fz0 := Lib.frozen_of_heap ko.here 0
    have cz1 := ko.here.cell 1 _ rfl
    have fz1 := Lib.frozen_of_heap ko.here 1
    have cz2 := ko.here.cell 2 _ rfl
    have fz2 := Lib.frozen_of_heap ko.here 2
    go_wp2
    refine bodyPost_ret (v := .agg #[.bool false, .slice none 0 0, .slice none 0 0]) (by simp [results, Tryz.results80, go_sem, cz0, cz1, cz2]) rfl ?_
    rw [HV.out]
    first | exact newQ_zeroD bb1 | exact newQ_zeroD (below_set3 bb1 (by omega))
set_option maxHeartbeats 4000000 in
set_option maxRecDepth 100000 in
theorem specRatDec_any (vr : Value) (r : QI) (k m : Int) (w : World) (hz : szQ r ≤ 1048576) (hr : OwnQ vr r w) :
    Calls Tryz.prog 12 #[vr, .int .i64 k, .int .i64 m] w (PostDb (ratDecD r k m).1 (ratDecD r k m).2 w) := by
  have Hr := Lib.hid hr
  obtain ⟨Ar, cr, Br, dr, rfl⟩ := ownQ_form hr
  have OQr := Lib.hid (show ∀ W, Below w.heap.size w W → OwnQ (.agg #[.bool r.1.1, .slice Ar r.1.2.length cr, .slice Br r.2.length dr]) r W from fun W hb => OwnQ.below Hr.out hb)
  have OUr := Lib.hid (show ∀ W, Below w.heap.size w W → OwnI (.slice Ar r.1.2.length cr) r.1.2 W from fun W hb => (ownQ_open (OQr.out W hb)).2.1)
  have ODr := Lib.hid (show ∀ W, Below w.heap.size w W → OwnI (.slice Br r.2.length dr) r.2 W from fun W hb => (ownQ_open (OQr.out W hb)).2.2.1)
  have OSr := Lib.hid (show ∀ W, Below w.heap.size w W → OwnS (.agg #[.bool r.1.1, .slice Ar r.1.2.length cr]) r.1 W from fun W hb => OwnS.mk (OUr.out W hb))
  clear hr
  have bb0 : Below w.heap.size w ((w.alloc (.cells #[.bool r.1.1, .slice Ar r.1.2.length cr, .slice Br r.2.length dr] 34)).alloc (.cells #[.bool false, .slice none 0 0, .int .i64 0] 30)) := below_al (below_al (Below.refl _ _) _) _
  have kr := (box_new w #[.bool r.1.1, .slice Ar r.1.2.length cr, .slice Br r.2.length dr] 34).below (below_al (Below.refl _ _) (.cells #[.bool false, .slice none 0 0, .int .i64 0] 30))
  have ko := (box_new (w.alloc (.cells #[.bool r.1.1, .slice Ar r.1.2.length cr, .slice Br r.2.length dr] 34)) #[.bool false, .slice none 0 0, .int .i64 0] 30)
  rw [show (w.alloc (.cells #[.bool r.1.1, .slice Ar r.1.2.length cr, .slice Br r.2.length dr] 34)).heap.size = w.heap.size + 1 by simp] at ko
  have HKO := Lib.hid (ko.lt (w.heap.size + 1) (by simp))
  obtain ⟨P, hP⟩ : ∃ P, ratDecD r k m = P := ⟨_, rfl⟩
  have EP := Lib.hid hP
  rw [hP]
  clear hP
  go_enter Tryz.func12, Tryz.ntmps12
  have kr_c0 := kr.here.cell 0 _ rfl
  have kr_c1 := kr.here.cell 1 _ rfl
  have kr_c2 := kr.here.cell 2 _ rfl
  go_wp2_with fail
  clear kr_c0 kr_c1 kr_c2
  refine (specRatOk_any _ r _ hz (OQr.out _ bb0)).mono ?_
  rintro e w1 ⟨rfl, b1⟩
  have bb1 := Below.next bb0 b1
  replace kr := kr.below b1
  replace ko := ko.below b1
  by_cases ok : okQ r = true
  · rw [ok]
    have HO := Lib.hid ok
    have HPA := Lib.hid (parts_of ok)
    clear ok
    by_cases hk : 0 ≤ k ∧ k ≤ 30
    · have hk0 := hk.1
      have hk1 := hk.2
      go_wp2_with fail
      refine (specIn_any k 0 30 true _ (decide_eq_true hk)).mono ?_
      rintro e w_ ⟨rfl, rfl⟩
      clear hk
      go_wp2_with fail
      refine (l06Mode_any m _).mono ?_
      rintro e w2 ⟨rfl, b2⟩
      have bb2 := Below.next bb1 b2
      replace kr := kr.below b2
      replace ko := ko.below b2
      by_cases hm : modeB m = true
      · rw [hm]
        have HM := Lib.hid hm
        obtain ⟨Y, hY⟩ : ∃ Y, mkS r.1.1 (limbs (scaledN r k m)) = Y := ⟨_, rfl⟩
        have EY := Lib.hid hY
        have EV := Lib.hid (show decD Y k = P by rw [← hY, ← EP.out]; exact ratDec_is HO.out hk0 hk1 hm)
        have hzS : Y.2.length ≤ 1048576 := by rw [← hY]; show (capL _).length ≤ _; unfold capL; split; decide; omega
        obtain ⟨A, hA⟩ : ∃ A, topN r * 10 ^ k.toNat = A := ⟨_, rfl⟩
        have hAl : (A : Int) < bp 22 := by rw [← hA]; exact scaled_lt HO.out hk1
        have hD0 := denQ_pos HO.out
        have hdl : (limbs (denQ r)).length ≤ 18 := by have e := HPA.out.d; rw [← e]; exact HPA.out.d50
        obtain ⟨Q, hQ⟩ : ∃ Q, A / denQ r = Q := ⟨_, rfl⟩
        obtain ⟨R, hR⟩ : ∃ R, A % denQ r = R := ⟨_, rfl⟩
        have HR0 := Lib.hid (fun h : R = 0 ∨ awayB r.1.1 Q R (denQ r) m = false => (show mkS r.1.1 (trimL (limbs Q)) = Y by
          rw [trimL_limbs, ← hY]
          unfold scaledN roundN
          rw [hA, hQ, hR, if_neg (fun e => by rcases h with h | h; exact e.1 h; rw [h] at e; exact absurd e.2 (by decide)), Nat.add_zero]))
        have HR1 := Lib.hid (fun (h : R ≠ 0) (ha : awayB r.1.1 Q R (denQ r) m = true) => (show mkS r.1.1 (trimL (addL (limbs Q) [1] 0)) = Y by
          rw [one_more, ← hY]
          unfold scaledN roundN
          rw [hA, hQ, hR, if_pos ⟨h, ha⟩]))
        have h22 : (limbs A).length ≤ 22 := limbs_length_le A 22 hAl
        have hql : (limbs Q).length ≤ 22 := limbs_length_le Q 22 (by have := Nat.div_le_self A (denQ r); rw [hQ] at this; omega)
        have hDl := nval_lt (limbs (denQ r)) (limbs_digN _)
        rw [limbs_val] at hDl
        have hrl : (limbs R).length ≤ 18 := Nat.le_trans (limbs_length_le R (limbs (denQ r)).length (by have := Nat.mod_lt A hD0; rw [hR] at this; omega)) hdl
        have hnl := HPA.out.n50
        have hten := tenN_pt hk0 hk1
        have EA := Lib.hid (show (nval r.1.2 * nval (tenN k)).toNat = A by
          have h1 := nval_ok (okS_parts HPA.out.okn).1
          have h2 : ((topN r : Nat) : Int) = nval r.1.2 := Int.toNat_of_nonneg h1
          rw [hten.2.2.2, ← h2, ← pt_nat, ← Int.natCast_mul, Int.toNat_natCast]
          exact hA)
        have hdv : ∀ (v : Value) (W : World), Below w.heap.size w W → OwnI v (limbs A) W → Calls Tryz.prog 65 #[v, .slice Br r.2.length dr] W (TwoRows (limbs Q) (limbs R) W) := fun v W hb ho => by
          have h := specDiv_any _ _ (limbs A) r.2 0 _ 0 _ W (by omega) (by have := HPA.out.d50; omega) (okQ_parts HO.out).2.2.1 (Nat.le_refl _) (Nat.le_refl _) (limbs_digN A) ⟨(natOk_parts HPA.out.okd).1, (natOk_parts HPA.out.okd).2.2⟩ ho.row (ODr.out _ hb).row
          have e2 : nval r.2 = (denQ r : Int) := by rw [HPA.out.d, limbs_val]
          rw [limbs_val, e2, div_toNat, ← Int.natCast_emod, Int.toNat_natCast, hQ, hR] at h
          exact h
        have HDV := Lib.hid hdv
        have hdig := Lib.hid (natOk_parts (okS_parts HPA.out.okn).1).1
        have hdig2 := Lib.hid (natOk_parts hten.2.2.1).1
        have htl := hten.2.1
        clear hdv hA hAl hQ hR hY hm hDl hten
        have kr_c0 := kr.here.cell 0 _ rfl
        have kr_c1 := kr.here.cell 1 _ rfl
        have kr_c2 := kr.here.cell 2 _ rfl
        go_wp2_with fail
        have HC0 := Lib.hid (show Chg [] w2 w2.drew from (Chg.refl _ _).drew1)
        have HCr := Lib.hid (show Chg [] w2 w2 from Chg.refl _ _)
        have KL := Lib.hid (show ∀ W, Chg [] w2 W → W.cell? ⟨w.heap.size, 0, none⟩ = some (.bool r.1.1) ∧ W.cell? ⟨w.heap.size, 1, none⟩ = some (.slice Ar r.1.2.length cr) ∧ W.cell? ⟨w.heap.size, 2, none⟩ = some (.slice Br r.2.length dr) ∧ Hid (Chg [] w2 W) from fun W hc => ⟨(kr.chg hc (fun i hi hm => by simp at hm)).here.cell 0 _ rfl, (kr.chg hc (fun i hi hm => by simp at hm)).here.cell 1 _ rfl, (kr.chg hc (fun i hi hm => by simp at hm)).here.cell 2 _ rfl, Lib.hid hc⟩)
        have BBF := Lib.hid (show ∀ W, Chg [] w2 W → Below w.heap.size w W from fun W hc => below_chg bb2 hc bb2.size (fun i hi => by simp at hi))
        clear kr_c0 kr_c1 kr_c2
        go_region_held3 (fun W => W.cell? ⟨w.heap.size, 0, none⟩ = some (.bool r.1.1) ∧ W.cell? ⟨w.heap.size, 1, none⟩ = some (.slice Ar r.1.2.length cr) ∧ W.cell? ⟨w.heap.size, 2, none⟩ = some (.slice Br r.2.length dr) ∧ Hid (Chg [] w2 W))
          ((refine KL.out _ ?_; (first | exact HC4.out | exact HC3.out | exact HCr.out | exact HC0.out | exact HC4.out.drew1 | exact HC3.out.drew1 | exact HCr.out.drew1 | exact HC0.out.drew1 | exact HC4.out.trans (Chg.of_below (below_al (Below.refl _ _) _)) | exact HC3.out.trans (Chg.of_below (below_al (Below.refl _ _) _)) | exact HCr.out.trans (Chg.of_below (below_al (Below.refl _ _) _)) | exact HC0.out.trans (Chg.of_below (below_al (Below.refl _ _) _)) | fail)))
          (first
            | (go_at_call 64; (have hBB := (‹_ ∧ _ ∧ _ ∧ Hid (Chg [] w2 _)›).2.2.2); (with_reducible refine (specNatTen_any k _).mono ?_); rintro e w3 ⟨ut, rfl, ot0, b3⟩; have HC3 := Lib.hid (hBB.out.trans (Chg.of_below b3)); have ot := own_at' ot0; obtain ⟨At_, ct, rfl⟩ := own_len ot0; have HBZ3 := Lib.hid hBB.out.size; clear hBB)
            | (go_at_call 63; (have hBB := (‹_ ∧ _ ∧ _ ∧ Hid (Chg [] w2 _)›).2.2.2); (with_reducible refine ((specMulV_any _ _ r.1.2 (tenN k) 0 _ 0 _ _ (by omega) (by omega) (Nat.le_refl _) (Nat.le_refl _) hdig.out hdig2.out (OUr.out _ (BBF.out _ hBB.out)).row (OwnI.row (At.here (by first | exact ot | exact At.below ot (below_al (Below.refl _ _) _) | exact At.below (At.below ot (below_al (Below.refl _ _) _)) (below_al (Below.refl _ _) _) | exact At.move ot (fun _ _ => rfl) (Nat.le_refl _))))).mono fun _ _ h => newI_eqD h (congrArg limbs EA.out)).mono ?_); rintro e w4 ⟨ua, rfl, oa0, b4⟩; have HC4 := Lib.hid (hBB.out.trans (Chg.of_below b4)); (have ot_4 := At.below (by first | exact ot | exact At.below ot (below_al (Below.refl _ _) _) | exact At.below (At.below ot (below_al (Below.refl _ _) _)) (below_al (Below.refl _ _) _) | exact At.move ot (fun _ _ => rfl) (Nat.le_refl _)) b4); have oa := own_at' oa0; obtain ⟨Aa, ca, rfl⟩ := own_len oa0; have HBZ4 := Lib.hid hBB.out.size; clear hBB))
        have bb4 := BBF.out _ HC4.out
        replace kr := kr.chg HC4.out (fun i hi hm => by simp at hm)
        replace ko := ko.chg HC4.out (fun i hi hm => by simp at hm)
        have ot := ot_4
        have kr_c0 := kr.here.cell 0 _ rfl
        have kr_c1 := kr.here.cell 1 _ rfl
        have kr_c2 := kr.here.cell 2 _ rfl
        go_wp2_with fail
        clear kr_c0 kr_c1 kr_c2
        refine (HDV.out _ _ bb4 oa.here).mono ?_
        rintro e w5 ⟨vq, vr_, rfl, oq0, or0, hqr, b5⟩
        obtain ⟨Aq, cq, rfl⟩ := own_len oq0
        obtain ⟨As, cs, rfl⟩ := own_len or0
        have oq := own_at' oq0
        have os := own_at' or0
        clear oq0 or0 hqr
        have bb5 := Below.next bb4 b5
        replace kr := kr.below b5
        replace ko := ko.below b5
        replace oa := oa.below b5
        clear oa ot oa0 ot0
        by_cases h0 : R = 0
        · have HV := Lib.hid (HR0.out (.inl h0))
          subst h0
          rw [show (limbs 0).length = 0 by rw [limbs_zero]; rfl] at *
          clear os
          have HKL := Lib.hid (ko.lt (w.heap.size + 1) (by simp))
          have kr_c0 := kr.here.cell 0 _ rfl
          have kr_c1 := kr.here.cell 1 _ rfl
          have kr_c2 := kr.here.cell 2 _ rfl
          go_wp2_with fail
          clear kr_c0 kr_c1 kr_c2
          refine ((l04Make_any _ _ (limbs Q) _ _ (by omega) (At.here oq)).mono fun _ _ h => roundVS_eq HV.out (NewS.newV h)).mono ?_
          rintro e w6 ⟨us, Ss, rfl, oy, ls, b6⟩
          obtain ⟨Ay, cy, rfl⟩ := ownS_form oy.here
          have bb6 := Below.next bb5 b6
          replace kr := kr.below b6
          replace ko := ko.below b6
          replace oq := oq.below b6
          go_wp2_with fail
          refine ((l07Dec_any _ Y k _ _ hzS oy).mono fun _ _ h => keptD_eq EV.out h).mono ?_
          rintro e w7 ⟨uf, Sf, rfl, of, sf, b7⟩
          obtain ⟨Af, cf, rfl⟩ := ownD_form of.here
          have bb7 := Below.next bb6 b7
          replace kr := kr.below b7
          replace ko := ko.below b7
          replace oq := oq.below b7
          replace oy := oy.below b7
          have lf : Within Sf _ _ := fun i hi => ⟨(ls i (sf i hi)).1, of.lt i hi⟩
          clear oy kr
          clear oq
          have HW := Lib.hid (newDb_at (r := w.heap.size + 1) (b := P.2) of lf (by have := HKL.out; omega) (by omega) bb7)
          have cz0 := ko.here.cell 0 _ rfl
          have fz0 := Lib.frozen_of_heap ko.here 0
          have cz1 := ko.here.cell 1 _ rfl
          have fz1 := Lib.frozen_of_heap ko.here 1
          have cz2 := ko.here.cell 2 _ rfl
          have fz2 := Lib.frozen_of_heap ko.here 2
          clear of ko
          go_wp2
          refine bodyPost_ret (v := .tuple #[.agg #[.bool _, .slice Af _ cf, .int .i64 _], .bool _]) (by simp [results, Tryz.results12, go_sem, cz0, cz1, cz2]; try exact ⟨⟨rfl, rfl, rfl⟩, rfl⟩) rfl ?_
          exact HW.out
        · have hlen : ((limbs R).length : Int) > 0 := by have := mt (limbs_zero_iff R).1 h0; omega
          have H0 := Lib.hid h0
          clear h0
          have kr_c0 := kr.here.cell 0 _ rfl
          have kr_c1 := kr.here.cell 1 _ rfl
          have kr_c2 := kr.here.cell 2 _ rfl
          go_wp2_with fail
          clear kr_c0 kr_c1 kr_c2
          refine (l06Away_any _ _ _ r.1.1 Q R (denQ r) _ (by omega) hrl hdl oq.here os.here (ownI_eq (ODr.out _ bb5) HPA.out.d) m HM.out).mono ?_
          rintro e w6 ⟨rfl, b6⟩
          have bb6 := Below.next bb5 b6
          replace kr := kr.below b6
          replace ko := ko.below b6
          replace oq := oq.below b6
          replace os := os.below b6
          by_cases haw : awayB r.1.1 Q R (denQ r) m = true
          · have HV := Lib.hid (HR1.out H0.out haw)
            rw [haw]
            clear haw
            have o1 := World.ownsRow_lit (base := w6.heap.size) (e := 3) (size := 1) w6 #[.int .i64 1] 1 (Nat.le_refl _) (by unfold maxLen; omega) rfl
            have HO1 := Lib.hid o1
            clear o1
            have kt := box_new (w6) #[.int .i64 1] 3
            have alt := below_al (Below.refl (w6).heap.size (w6)) (.cells #[.int .i64 1] 3)
            have bbt := Below.next bb6 alt
            replace kr := kr.below alt
            replace ko := ko.below alt
            replace oq := oq.below alt
            replace os := os.below alt
            go_wp2_with fail
            refine (specAdd_any _ _ (limbs Q) [1] 0 _ _ _ _ (by omega) (by decide) (Nat.le_refl _) (Nat.le_refl _) (limbs_digN Q) (by rw [← one_limbs]; exact limbs_digN 1) oq.here.row (Row.of_own HO1.out)).mono ?_
            rintro e w7 ⟨vs, rfl, osum0, b7⟩
            obtain ⟨Az, cz, rfl⟩ := own_len osum0
            have osum := own_at' osum0
            clear osum0
            have bb7 := Below.next bbt b7
            replace kr := kr.below b7
            replace ko := ko.below b7
            replace oq := oq.below b7
            replace os := os.below b7
            replace kt := kt.below b7
            have hsl : (addL (limbs Q) [1] 0).length ≤ 1048576 := by have := (addL_val (limbs Q) [1] 0 (limbs_digN Q) (by rw [← one_limbs]; exact limbs_digN 1) (by omega) (by omega)).2.2; simp only [List.length_cons, List.length_nil] at this; omega
            clear oq os kt
            have HKL := Lib.hid (ko.lt (w.heap.size + 1) (by simp))
            have kr_c0 := kr.here.cell 0 _ rfl
            have kr_c1 := kr.here.cell 1 _ rfl
            have kr_c2 := kr.here.cell 2 _ rfl
            go_wp2_with fail
            clear kr_c0 kr_c1 kr_c2
            refine ((l04Make_any _ _ (addL (limbs Q) [1] 0) _ _ (hsl) (At.here osum)).mono fun _ _ h => roundVS_eq HV.out (NewS.newV h)).mono ?_
            rintro e w8 ⟨us, Ss, rfl, oy, ls, b8⟩
            obtain ⟨Ay, cy, rfl⟩ := ownS_form oy.here
            have bb8 := Below.next bb7 b8
            replace kr := kr.below b8
            replace ko := ko.below b8
            replace osum := osum.below b8
            go_wp2_with fail
            refine ((l07Dec_any _ Y k _ _ hzS oy).mono fun _ _ h => keptD_eq EV.out h).mono ?_
            rintro e w9 ⟨uf, Sf, rfl, of, sf, b9⟩
            obtain ⟨Af, cf, rfl⟩ := ownD_form of.here
            have bb9 := Below.next bb8 b9
            replace kr := kr.below b9
            replace ko := ko.below b9
            replace osum := osum.below b9
            replace oy := oy.below b9
            have lf : Within Sf _ _ := fun i hi => ⟨(ls i (sf i hi)).1, of.lt i hi⟩
            clear oy kr
            clear osum
            have HW := Lib.hid (newDb_at (r := w.heap.size + 1) (b := P.2) of lf (by have := HKL.out; omega) (by omega) bb9)
            have cz0 := ko.here.cell 0 _ rfl
            have fz0 := Lib.frozen_of_heap ko.here 0
            have cz1 := ko.here.cell 1 _ rfl
            have fz1 := Lib.frozen_of_heap ko.here 1
            have cz2 := ko.here.cell 2 _ rfl
            have fz2 := Lib.frozen_of_heap ko.here 2
            clear of ko
            go_wp2
            refine bodyPost_ret (v := .tuple #[.agg #[.bool _, .slice Af _ cf, .int .i64 _], .bool _]) (by simp [results, Tryz.results12, go_sem, cz0, cz1, cz2]; try exact ⟨⟨rfl, rfl, rfl⟩, rfl⟩) rfl ?_
            exact HW.out
          · have haw' : awayB r.1.1 Q R (denQ r) m = false := by simpa using haw
            have HV := Lib.hid (HR0.out (.inr haw'))
            rw [haw']
            clear haw haw' os
            have HKL := Lib.hid (ko.lt (w.heap.size + 1) (by simp))
            have kr_c0 := kr.here.cell 0 _ rfl
            have kr_c1 := kr.here.cell 1 _ rfl
            have kr_c2 := kr.here.cell 2 _ rfl
            go_wp2_with fail
            clear kr_c0 kr_c1 kr_c2
            refine ((l04Make_any _ _ (limbs Q) _ _ (by omega) (At.here oq)).mono fun _ _ h => roundVS_eq HV.out (NewS.newV h)).mono ?_
            rintro e w7 ⟨us, Ss, rfl, oy, ls, b7⟩
            obtain ⟨Ay, cy, rfl⟩ := ownS_form oy.here
            have bb7 := Below.next bb6 b7
            replace kr := kr.below b7
            replace ko := ko.below b7
            replace oq := oq.below b7
            go_wp2_with fail
            refine ((l07Dec_any _ Y k _ _ hzS oy).mono fun _ _ h => keptD_eq EV.out h).mono ?_
            rintro e w8 ⟨uf, Sf, rfl, of, sf, b8⟩
            obtain ⟨Af, cf, rfl⟩ := ownD_form of.here
            have bb8 := Below.next bb7 b8
            replace kr := kr.below b8
            replace ko := ko.below b8
            replace oq := oq.below b8
            replace oy := oy.below b8
            have lf : Within Sf _ _ := fun i hi => ⟨(ls i (sf i hi)).1, of.lt i hi⟩
            clear oy kr
            clear oq
            have HW := Lib.hid (newDb_at (r := w.heap.size + 1) (b := P.2) of lf (by have := HKL.out; omega) (by omega) bb8)
            have cz0 := ko.here.cell 0 _ rfl
            have fz0 := Lib.frozen_of_heap ko.here 0
            have cz1 := ko.here.cell 1 _ rfl
            have fz1 := Lib.frozen_of_heap ko.here 1
            have cz2 := ko.here.cell 2 _ rfl
            have fz2 := Lib.frozen_of_heap ko.here 2
            clear of ko
            go_wp2
            refine bodyPost_ret (v := .tuple #[.agg #[.bool _, .slice Af _ cf, .int .i64 _], .bool _]) (by simp [results, Tryz.results12, go_sem, cz0, cz1, cz2]; try exact ⟨⟨rfl, rfl, rfl⟩, rfl⟩) rfl ?_
            exact HW.out
      · have hm' : modeB m = false := by simpa using hm
        have HV := Lib.hid (show P = (zeroD, false) by rw [← EP.out]; unfold ratDecD; rw [if_neg (fun h => hm h.2.2)])
        rw [hm']
        clear hm hm' kr
        have cz0 := ko.here.cell 0 _ rfl
        have fz0 := Lib.frozen_of_heap ko.here 0
        have cz1 := ko.here.cell 1 _ rfl
        have fz1 := Lib.frozen_of_heap ko.here 1
        have cz2 := ko.here.cell 2 _ rfl
        have fz2 := Lib.frozen_of_heap ko.here 2
        go_wp2
        refine bodyPost_ret (v := .tuple #[.agg #[.bool false, .slice none 0 0, .int .i64 0], .bool false]) (by simp [results, Tryz.results12, go_sem, cz0, cz1, cz2]) rfl ?_
        rw [HV.out]
        first | exact newDb_zero _ bb2 | exact newDb_zero _ (below_set3 bb2 (by omega))
    · skip
      have HV := Lib.hid (show P = (zeroD, false) by rw [← EP.out]; unfold ratDecD; rw [if_neg (fun h => hk h.2.1)])
      go_wp2_with fail
      refine (specIn_any k 0 30 false _ (decide_eq_false hk)).mono ?_
      rintro e w_ ⟨rfl, rfl⟩
      clear hk kr
      have cz0 := ko.here.cell 0 _ rfl
      have fz0 := Lib.frozen_of_heap ko.here 0
      have cz1 := ko.here.cell 1 _ rfl
      have fz1 := Lib.frozen_of_heap ko.here 1
      have cz2 := ko.here.cell 2 _ rfl
      have fz2 := Lib.frozen_of_heap ko.here 2
      go_wp2
      refine bodyPost_ret (v := .tuple #[.agg #[.bool false, .slice none 0 0, .int .i64 0], .bool false]) (by simp [results, Tryz.results12, go_sem, cz0, cz1, cz2]) rfl ?_
      rw [HV.out]
      first | exact newDb_zero _ bb1 | exact newDb_zero _ (below_set3 bb1 (by omega))
  · have ok' : okQ r = false := by simpa using ok
    have HV := Lib.hid (show P = (zeroD, false) by rw [← EP.out]; unfold ratDecD; rw [if_neg (fun h => ok h.1)])
    rw [ok']
    clear ok ok' kr
    have cz0 := ko.here.cell 0 _ rfl
    have fz0 := Lib.frozen_of_heap ko.here 0
    have cz1 := ko.here.cell 1 _ rfl
    have fz1 := Lib.frozen_of_heap ko.here 1
    have cz2 := ko.here.cell 2 _ rfl
    have fz2 := Lib.frozen_of_heap ko.here 2
    go_wp2
    refine bodyPost_ret (v := .tuple #[.agg #[.bool false, .slice none 0 0, .int .i64 0], .bool false]) (by simp [results, Tryz.results12, go_sem, cz0, cz1, cz2]) rfl ?_
    rw [HV.out]
    first | exact newDb_zero _ bb1 | exact newDb_zero _ (below_set3 bb1 (by omega))
set_option maxHeartbeats 4000000 in
set_option maxRecDepth 100000 in
theorem specDecDiv_any (va vb : Value) (a b : DI) (k m : Int) (w : World) (hla : a.1.2.length ≤ 1048576) (hlb : b.1.2.length ≤ 1048576) (ha : OwnD va a w) (hb : OwnD vb b w) :
    Calls Tryz.prog 21 #[va, vb, .int .i64 k, .int .i64 m] w (PostDb (divD a b k m).1 (divD a b k m).2 w) := by
  have Ha := Lib.hid ha
  obtain ⟨Aa, ca, rfl⟩ := ownD_form ha
  have ODa := Lib.hid (show ∀ W, Below w.heap.size w W → OwnD (.agg #[.bool a.1.1, .slice Aa a.1.2.length ca, .int .i64 a.2]) a W from fun W hb => OwnD.below Ha.out hb)
  have OIa := Lib.hid (show ∀ W, Below w.heap.size w W → OwnI (.slice Aa a.1.2.length ca) a.1.2 W from fun W hb => ownD_open (ODa.out W hb))
  have OSa := Lib.hid (show ∀ W, Below w.heap.size w W → OwnS (.agg #[.bool a.1.1, .slice Aa a.1.2.length ca]) a.1 W from fun W hb => OwnS.mk (OIa.out W hb))
  clear ha
  have Hb := Lib.hid hb
  obtain ⟨Ab, cb, rfl⟩ := ownD_form hb
  have ODb := Lib.hid (show ∀ W, Below w.heap.size w W → OwnD (.agg #[.bool b.1.1, .slice Ab b.1.2.length cb, .int .i64 b.2]) b W from fun W hb => OwnD.below Hb.out hb)
  have OIb := Lib.hid (show ∀ W, Below w.heap.size w W → OwnI (.slice Ab b.1.2.length cb) b.1.2 W from fun W hb => ownD_open (ODb.out W hb))
  have OSb := Lib.hid (show ∀ W, Below w.heap.size w W → OwnS (.agg #[.bool b.1.1, .slice Ab b.1.2.length cb]) b.1 W from fun W hb => OwnS.mk (OIb.out W hb))
  clear hb
  have bb0 : Below w.heap.size w (((w.alloc (.cells #[.bool a.1.1, .slice Aa a.1.2.length ca, .int .i64 a.2] 30)).alloc (.cells #[.bool b.1.1, .slice Ab b.1.2.length cb, .int .i64 b.2] 30)).alloc (.cells #[.bool false, .slice none 0 0, .int .i64 0] 30)) := below_al (below_al (below_al (Below.refl _ _) _) _) _
  have ka := (box_new w #[.bool a.1.1, .slice Aa a.1.2.length ca, .int .i64 a.2] 30).below (below_al (below_al (Below.refl _ _) (.cells #[.bool b.1.1, .slice Ab b.1.2.length cb, .int .i64 b.2] 30)) (.cells #[.bool false, .slice none 0 0, .int .i64 0] 30))
  have kb := (box_new (w.alloc (.cells #[.bool a.1.1, .slice Aa a.1.2.length ca, .int .i64 a.2] 30)) #[.bool b.1.1, .slice Ab b.1.2.length cb, .int .i64 b.2] 30).below (below_al (Below.refl _ _) (.cells #[.bool false, .slice none 0 0, .int .i64 0] 30))
  rw [show (w.alloc (.cells #[.bool a.1.1, .slice Aa a.1.2.length ca, .int .i64 a.2] 30)).heap.size = w.heap.size + 1 by simp] at kb
  have ko := (box_new ((w.alloc (.cells #[.bool a.1.1, .slice Aa a.1.2.length ca, .int .i64 a.2] 30)).alloc (.cells #[.bool b.1.1, .slice Ab b.1.2.length cb, .int .i64 b.2] 30)) #[.bool false, .slice none 0 0, .int .i64 0] 30)
  rw [show ((w.alloc (.cells #[.bool a.1.1, .slice Aa a.1.2.length ca, .int .i64 a.2] 30)).alloc (.cells #[.bool b.1.1, .slice Ab b.1.2.length cb, .int .i64 b.2] 30)).heap.size = w.heap.size + 1 + 1 by simp] at ko
  have HKO := Lib.hid (ko.lt (w.heap.size + 1 + 1) (by simp))
  obtain ⟨⟨R, by_⟩, hR⟩ : ∃ q, divQ (ratD a) (ratD b) = q := ⟨_, rfl⟩
  have ER := Lib.hid hR
  have hzR : szQ R ≤ 1048576 := by have := divQ_szD (ratD a) (ratD b); rw [hR] at this; exact this
  obtain ⟨Q, hQ⟩ : ∃ Q, divD a b k m = Q := ⟨_, rfl⟩
  rw [hQ]
  have EQ := Lib.hid (fun h : by_ = true => (show ratDecD R k m = Q by rw [← hQ]; unfold divD; rw [hR, if_pos h]))
  have EN := Lib.hid (fun h : ¬ by_ = true => (show Q = (zeroD, false) by rw [← hQ]; unfold divD; rw [hR, if_neg h]))
  clear hR hQ
  have hza := ratD_sz a
  have hzb := ratD_sz b
  obtain ⟨W0, hW0⟩ : ∃ W0, W0 = (((w.alloc (.cells #[.bool a.1.1, .slice Aa a.1.2.length ca, .int .i64 a.2] 30)).alloc (.cells #[.bool b.1.1, .slice Ab b.1.2.length cb, .int .i64 b.2] 30)).alloc (.cells #[.bool false, .slice none 0 0, .int .i64 0] 30)) := ⟨_, rfl⟩
  rw [← hW0] at bb0 ka kb ko HKO
  have HW0 := Lib.hid hW0
  clear hW0
  have ka_c0 := ka.here.cell 0 _ rfl
  have ka_c1 := ka.here.cell 1 _ rfl
  have ka_c2 := ka.here.cell 2 _ rfl
  have kb_c0 := kb.here.cell 0 _ rfl
  have kb_c1 := kb.here.cell 1 _ rfl
  have kb_c2 := kb.here.cell 2 _ rfl
  rw [HW0.out] at ka_c0 ka_c1 ka_c2 kb_c0 kb_c1 kb_c2
  go_enter Tryz.func21, Tryz.ntmps21
  go_upto_region 1 with fail
  rw [← HW0.out]
  go_cut [10, 11] (fun s1 s2 wx => NewLocV 34 (fun v => OwnQ v R) W0 s1 wx ∧ s2 = .bool by_)
  case first =>
    have HC0 := Lib.hid (show Chg [] W0 W0.drew from (Chg.refl _ _).drew1)
    have HCr := Lib.hid (show Chg [] W0 W0 from Chg.refl _ _)
    have KL := Lib.hid (show ∀ W, Chg [] W0 W → W.cell? ⟨w.heap.size, 0, none⟩ = some (.bool a.1.1) ∧ W.cell? ⟨w.heap.size, 1, none⟩ = some (.slice Aa a.1.2.length ca) ∧ W.cell? ⟨w.heap.size, 2, none⟩ = some (.int .i64 a.2) ∧ W.cell? ⟨w.heap.size + 1, 0, none⟩ = some (.bool b.1.1) ∧ W.cell? ⟨w.heap.size + 1, 1, none⟩ = some (.slice Ab b.1.2.length cb) ∧ W.cell? ⟨w.heap.size + 1, 2, none⟩ = some (.int .i64 b.2) ∧ Hid (Chg [] W0 W) from fun W hc => ⟨(ka.chg hc (fun i hi hm => by simp at hm)).here.cell 0 _ rfl, (ka.chg hc (fun i hi hm => by simp at hm)).here.cell 1 _ rfl, (ka.chg hc (fun i hi hm => by simp at hm)).here.cell 2 _ rfl, (kb.chg hc (fun i hi hm => by simp at hm)).here.cell 0 _ rfl, (kb.chg hc (fun i hi hm => by simp at hm)).here.cell 1 _ rfl, (kb.chg hc (fun i hi hm => by simp at hm)).here.cell 2 _ rfl, Lib.hid hc⟩)
    have BBF := Lib.hid (show ∀ W, Chg [] W0 W → Below w.heap.size w W from fun W hc => below_chg bb0 hc bb0.size (fun i hi => by simp at hi))
    clear ka_c0 ka_c1 ka_c2 kb_c0 kb_c1 kb_c2
    go_region_held3 (fun W => W.cell? ⟨w.heap.size, 0, none⟩ = some (.bool a.1.1) ∧ W.cell? ⟨w.heap.size, 1, none⟩ = some (.slice Aa a.1.2.length ca) ∧ W.cell? ⟨w.heap.size, 2, none⟩ = some (.int .i64 a.2) ∧ W.cell? ⟨w.heap.size + 1, 0, none⟩ = some (.bool b.1.1) ∧ W.cell? ⟨w.heap.size + 1, 1, none⟩ = some (.slice Ab b.1.2.length cb) ∧ W.cell? ⟨w.heap.size + 1, 2, none⟩ = some (.int .i64 b.2) ∧ Hid (Chg [] W0 W))
      ((refine KL.out _ ?_; (first | exact HC3.out | exact HC2.out | exact HC1.out | exact HCr.out | exact HC0.out | exact HC3.out.drew1 | exact HC2.out.drew1 | exact HC1.out.drew1 | exact HCr.out.drew1 | exact HC0.out.drew1 | exact HC3.out.trans (Chg.of_below (below_al (Below.refl _ _) _)) | exact HC2.out.trans (Chg.of_below (below_al (Below.refl _ _) _)) | exact HC1.out.trans (Chg.of_below (below_al (Below.refl _ _) _)) | exact HCr.out.trans (Chg.of_below (below_al (Below.refl _ _) _)) | exact HC0.out.trans (Chg.of_below (below_al (Below.refl _ _) _)) | exact (Chg.setNew HC3.out (by first | exact HC3.out.size | exact HC2.out.size | exact HC1.out.size | exact HCr.out.size | exact HC0.out.size) _) | exact (Chg.setNew (Chg.setNew HC3.out (by first | exact HC3.out.size | exact HC2.out.size | exact HC1.out.size | exact HCr.out.size | exact HC0.out.size) _) (by first | exact HC3.out.size | exact HC2.out.size | exact HC1.out.size | exact HCr.out.size | exact HC0.out.size) _) | exact (Chg.setNew (Chg.setNew (Chg.setNew HC3.out (by first | exact HC3.out.size | exact HC2.out.size | exact HC1.out.size | exact HCr.out.size | exact HC0.out.size) _) (by first | exact HC3.out.size | exact HC2.out.size | exact HC1.out.size | exact HCr.out.size | exact HC0.out.size) _) (by first | exact HC3.out.size | exact HC2.out.size | exact HC1.out.size | exact HCr.out.size | exact HC0.out.size) _) | fail)))
      (first
        | (go_at_call 80; (have hBB := (‹_ ∧ _ ∧ _ ∧ _ ∧ _ ∧ _ ∧ Hid (Chg [] W0 _)›).2.2.2.2.2.2); (with_reducible refine (specDecRat_any _ a _ hla (ODa.out _ (BBF.out _ hBB.out))).mono ?_); rintro e w1 ⟨up, Sp, rfl, op, lp, b1⟩; have HC1 := Lib.hid (hBB.out.trans (Chg.of_below b1)); obtain ⟨Ap, cp, Bp, dp, rfl⟩ := ownQ_form op.here; (first | (have early1 : At [W0.heap.size] (BoxAt W0.heap.size #[.bool false, .slice none 0 0, .slice none 0 0] 34) w1 := At.below (box_new W0.drew _ _) b1) | (have early1 := At.below (box_new _ #[.bool false, .slice none 0 0, .slice none 0 0] 34) b1) | (have early1 := At.below early0 b1) | skip); have HBZ1 := Lib.hid hBB.out.size; clear hBB)
        | (go_at_call 80; (have hBB := (‹_ ∧ _ ∧ _ ∧ _ ∧ _ ∧ _ ∧ Hid (Chg [] W0 _)›).2.2.2.2.2.2); (with_reducible refine (specDecRat_any _ b _ hlb (ODb.out _ (BBF.out _ hBB.out))).mono ?_); rintro e w2 ⟨uq, Sq, rfl, oq, lq, b2⟩; have HC2 := Lib.hid (hBB.out.trans (Chg.of_below b2)); (have op_2 := At.below (by first | exact op | exact At.below op (below_al (Below.refl _ _) _) | exact At.below (At.below op (below_al (Below.refl _ _) _)) (below_al (Below.refl _ _) _) | exact At.move op (fun _ _ => rfl) (Nat.le_refl _)) b2); obtain ⟨Aq, cq, Bq, dq, rfl⟩ := ownQ_form oq.here; (first | (have early2 : At [W0.heap.size] (BoxAt W0.heap.size #[.bool false, .slice none 0 0, .slice none 0 0] 34) w2 := At.below (box_new W0.drew _ _) b2) | (have early2 := At.below (box_new _ #[.bool false, .slice none 0 0, .slice none 0 0] 34) b2) | (have early2 := At.below early1 b2) | skip); have HBZ2 := Lib.hid hBB.out.size; clear hBB)
        | (go_at_call 79; (have hBB := (‹_ ∧ _ ∧ _ ∧ _ ∧ _ ∧ _ ∧ Hid (Chg [] W0 _)›).2.2.2.2.2.2); (with_reducible refine ((specRatDiv_any _ _ (ratD a) (ratD b) _ hza hzb (At.here (by first | exact op_2 | exact At.below op_2 (below_al (Below.refl _ _) _) | exact At.below (At.below op_2 (below_al (Below.refl _ _) _)) (below_al (Below.refl _ _) _) | exact At.move op_2 (fun _ _ => rfl) (Nat.le_refl _))) (At.here (by first | exact oq | exact At.below oq (below_al (Below.refl _ _) _) | exact At.below (At.below oq (below_al (Below.refl _ _) _)) (below_al (Below.refl _ _) _) | exact At.move oq (fun _ _ => rfl) (Nat.le_refl _)))).mono fun _ _ h => postQb_isD ER.out h).mono ?_); rintro e w3 ⟨uf, Sf, rfl, of, lf, b3⟩; have HC3 := Lib.hid (hBB.out.trans (Chg.of_below b3)); (have op_3 := At.below (by first | exact op_2 | exact At.below op_2 (below_al (Below.refl _ _) _) | exact At.below (At.below op_2 (below_al (Below.refl _ _) _)) (below_al (Below.refl _ _) _) | exact At.move op_2 (fun _ _ => rfl) (Nat.le_refl _)) b3); (have oq_3 := At.below (by first | exact oq | exact At.below oq (below_al (Below.refl _ _) _) | exact At.below (At.below oq (below_al (Below.refl _ _) _)) (below_al (Below.refl _ _) _) | exact At.move oq (fun _ _ => rfl) (Nat.le_refl _)) b3); obtain ⟨Af, cf, Bf, df, rfl⟩ := ownQ_form of.here; (first | have hbxg := At.below_lt (box_new _ #[.bool false, .slice none 0 0, .slice none 0 0] 34) b3 | have hbxg := At.below_lt early2 b3 | skip); (try (have hbxf := hbxg.1; have HGB := Lib.hid hbxg.2; clear hbxg)); (try (have cz0 := hbxf.here.cell 0 _ rfl; have fz0 := Lib.frozen_of_heap hbxf.here 0; have cz1 := hbxf.here.cell 1 _ rfl; have fz1 := Lib.frozen_of_heap hbxf.here 1; have cz2 := hbxf.here.cell 2 _ rfl; have fz2 := Lib.frozen_of_heap hbxf.here 2)); have HBZ3 := Lib.hid hBB.out.size; clear hBB))
    all_goals (go_wp2_with fail; go_meet; first | exact ⟨newLocV_last of lf HBZ3.out (below_of_chg HC3.out), rfl⟩ | exact ⟨newLocV_early3 hbxf.here of lf (by first | exact HC2.out.size | exact HC1.out.size | exact HCr.out.size | exact HC0.out.size) HGB.out (below_of_chg HC3.out), rfl⟩)
  rename World => w1
  clear ka_c0 ka_c1 ka_c2 kb_c0 kb_c1 kb_c2
  obtain ⟨⟨gy, csy, Sy, rfl, ky, oy, ny, ly, b1⟩, rfl⟩ := hcut
  obtain ⟨Ay, cy, By, dy, ey⟩ := ownQ_form oy.here
  injection ey with ey
  subst ey
  have bb1 := Below.next bb0 b1
  replace ka := ka.below b1
  replace kb := kb.below b1
  replace ko := ko.below b1
  cases by_ with
  | false =>
    have HV := Lib.hid (EN.out (by decide))
    clear ky oy ka kb
    have cz0 := ko.here.cell 0 _ rfl
    have fz0 := Lib.frozen_of_heap ko.here 0
    have cz1 := ko.here.cell 1 _ rfl
    have fz1 := Lib.frozen_of_heap ko.here 1
    have cz2 := ko.here.cell 2 _ rfl
    have fz2 := Lib.frozen_of_heap ko.here 2
    go_wp2
    refine bodyPost_ret (v := .tuple #[.agg #[.bool false, .slice none 0 0, .int .i64 0], .bool false]) (by simp [results, Tryz.results21, go_sem, cz0, cz1, cz2]) rfl ?_
    rw [HV.out]
    first | exact newDb_zero _ bb1 | exact newDb_zero _ (below_set3 bb1 (by omega))
  | true =>
    have ky_c0 := ky.here.cell 0 _ rfl
    have ky_c1 := ky.here.cell 1 _ rfl
    have ky_c2 := ky.here.cell 2 _ rfl
    go_wp2_with fail
    clear ky_c0 ky_c1 ky_c2
    refine ((specRatDec_any _ R k m _ hzR oy.here).mono fun _ _ h => postDb_eq (EQ.out (by simp)) h).mono ?_
    rintro e w2 ⟨uf, Sf, rfl, of, lf, b2⟩
    obtain ⟨Af, cf, rfl⟩ := ownD_form of.here
    have bb2 := Below.next bb1 b2
    replace ka := ka.below b2
    replace kb := kb.below b2
    replace ko := ko.below b2
    replace ky := ky.below b2
    replace oy := oy.below b2
    clear ky oy ka kb
    have HW := Lib.hid (newDb_at (r := w.heap.size + 1 + 1) (b := Q.2) of lf (by have := HKO.out; have := b1.size; omega) (by omega) bb2)
    have cz0 := ko.here.cell 0 _ rfl
    have fz0 := Lib.frozen_of_heap ko.here 0
    have cz1 := ko.here.cell 1 _ rfl
    have fz1 := Lib.frozen_of_heap ko.here 1
    have cz2 := ko.here.cell 2 _ rfl
    have fz2 := Lib.frozen_of_heap ko.here 2
    clear of ko
    go_wp2
    refine bodyPost_ret (v := .tuple #[.agg #[.bool _, .slice Af _ cf, .int .i64 _], .bool _]) (by simp [results, Tryz.results21, go_sem, cz0, cz1, cz2]; try exact ⟨⟨rfl, rfl, rfl⟩, rfl⟩) rfl ?_
    exact HW.out
end Go.Proofs.YthfkdofnoomhaaaGreatDoor

namespace Go.Proofs.YthfkdofnoomhaaaGreatDoor
open Go.RowKit

/-- an integer under construction: its limbs lie at the head of its block, its sign behind them -/
@[reducible] def intK (n : Bool) : NatK := ⟨[.bool n], 148, by decide⟩
theorem NatX.below {K : NatK} {B b : Nat} {xs : List Int} {w w' : World} (h : NatX K B b xs w) (hb : Below w.heap.size w w') : NatX K B b xs w' := by
  have hlt := h.lt
  obtain ⟨hB, v, hk, ho, hne⟩ := h
  exact ⟨hB, v, (hb.block b hlt).trans hk, own_below ho hb, hne⟩
/-- a new integer -/
def NewInteger (x : SI) (w : World) (e : Ending) (w' : World) : Prop :=
  ∃ b, e = .returned (.pointer (some ⟨b, 0, none⟩)) ∧ NatX (intK x.1) w.heap.size b x.2 w' ∧ Below w.heap.size w w'

theorem NatX.sign {m : Bool} {B b : Nat} {xs : List Int} {w : World} (h : NatX (intK m) B b xs w) (n : Bool) : NatX (intK n) B b xs (w.setCell ⟨b, 1, none⟩ (.bool n)) := by
  obtain ⟨hB, v, hk, ho, hne⟩ := h
  refine ⟨hB, v, ?_, own_stays ho fun i hi => Below.heap_setCell _ _ _ _ (fun e => hne (by rw [hi, e])), hne⟩
  simp [World.setCell, Array.getElem?_modify, hk]
set_option maxHeartbeats 400000 in
set_option maxRecDepth 100000 in
theorem implIntOk_any (v : Value) (x : SI) (w : World) (hl : x.2.length ≤ 1048576) (h : RdS w v x) :
    Calls Tryz.prog 125 #[v] w fun e w' => e = .returned (.bool (okS x)) ∧ Below w.heap.size w w' := by
  obtain ⟨n, xs⟩ := x
  obtain ⟨u, rfl, hp⟩ := h
  obtain ⟨A, c, rfl⟩ := row_form hp
  rw [intsV_length] at hp ⊢
  simp only at hl hp ⊢
  have hbx : Below w.heap.size w (w.alloc (.cells #[.bool n, .slice A xs.length c] 28)) := below_al (Below.refl _ _) _
  have HV := Lib.hid (show okS (n, xs) = (natOkB xs && (!n || decide (0 < xs.length))) from rfl)
  by_cases ok : natOkB xs = true
  · rw [ok] at HV
    go_enter Tryz.func125, Tryz.ntmps125
    go_wp2_with fail
    refine (implNatOk_same _ xs 0 w.heap.size _ (by omega) (hp.below hbx (Nat.le_refl _))).mono ?_
    rintro e w1 ⟨rfl, rfl⟩
    rw [ok]
    by_cases hz : xs.length = 0
    · have hb : ((xs.length : Int) == 0) = true := by rw [hz]; rfl
      have hd : decide (0 < xs.length) = false := decide_eq_false (by omega)
      rw [hd] at HV
      clear hz hd
      cases n <;>
      · go_wp2
        go_ret
        exact ⟨ret_bool (by rw [HV.out]; rfl), hbx⟩
    · have hb : ((xs.length : Int) == 0) = false := by rw [beq_eq_false_iff_ne]; omega
      have hd : decide (0 < xs.length) = true := decide_eq_true (by omega)
      rw [hd] at HV
      clear hz hd
      cases n <;>
      · go_wp2
        go_ret
        exact ⟨ret_bool (by rw [HV.out]; rfl), hbx⟩
  · have ok' : natOkB xs = false := by simpa using ok
    rw [ok'] at HV
    clear ok
    go_enter Tryz.func125, Tryz.ntmps125
    go_wp2_with fail
    refine (implNatOk_same _ xs 0 w.heap.size _ (by omega) (hp.below hbx (Nat.le_refl _))).mono ?_
    rintro e w1 ⟨rfl, rfl⟩
    rw [ok']
    go_wp2
    go_ret
    exact ⟨ret_bool (by rw [HV.out]; rfl), hbx⟩

theorem Below.drew1 {B : Nat} {w w1 : World} (h : Below B w w1) : Below B w w1.drew := ⟨h.os, h.tape, h.output, h.size, h.block⟩
set_option maxHeartbeats 1000000 in
set_option maxRecDepth 100000 in
theorem copyInt_any (v : Value) (x : SI) (w : World) (hl : x.2.length ≤ 1048576) (h : RdS w v x) :
    Calls Tryz.prog 169 #[v] w (NewInteger x w) := by
  obtain ⟨u, rfl, hp⟩ := h
  obtain ⟨A, c, rfl⟩ := row_form hp
  rw [intsV_length] at hp ⊢
  have hbx : Below w.heap.size w (w.alloc (.cells #[.bool x.1, .slice A x.2.length c] 28)) := below_al (Below.refl _ _) _
  have kx := box_new w #[.bool x.1, .slice A x.2.length c] 28
  obtain ⟨W0, hW0⟩ : ∃ W0, W0 = w.alloc (.cells #[.bool x.1, .slice A x.2.length c] 28) := ⟨_, rfl⟩
  rw [← hW0] at hbx kx
  have HW := Lib.hid hW0
  have HP := Lib.hid hp
  have c0 := kx.here.cell 0 _ rfl
  have c1 := kx.here.cell 1 _ rfl
  have HBX := Lib.hid hbx
  have KX := Lib.hid kx
  clear hp hW0 kx hbx
  go_enter Tryz.func169, Tryz.ntmps169
  go_wp2_with fail
  rw [← HW.out]
  go_region_with (go_at_call 190; refine (copyNat_any _ x.2 0 w.heap.size _ hl (HP.out.below (Below.drew1 HBX.out) (Nat.le_refl _))).mono ?_; rintro e w3 ⟨b, rfl, hx, b3⟩; obtain ⟨hB, vv, hbk, hown, hne⟩ := hx; obtain ⟨A3, c3, rfl⟩ := own_len hown; have hk3 := ((At.move (w' := W0.drew) KX.out (fun _ _ => rfl) (Nat.le_refl _)).below b3).here; (have d0 := hk3.cell 0 _ rfl); (have d1 := hk3.cell 1 _ rfl); (have cb := NatX.cell hbk); have HO := Lib.hid hown; have HB3 := Lib.hid b3; clear hbk hown hne hB b3 hk3)
  all_goals
    have bb3 := Below.next (Below.drew1 HBX.out) HB3.out
    go_wp2
    go_ret
    exact ⟨_, rfl, NatX.new (K := intK x.1) bb3.size (own_low HO.out (Below.drew1 HBX.out).size), below_al bb3 _⟩

/-- a new signed number; its limbs lie at B or behind it -/
def NewSB (B : Nat) (x : SI) (w : World) (e : Ending) (w' : World) : Prop := ∃ u, e = .returned (.agg #[.bool x.1, u]) ∧ w'.ownsRow B 3 1 u x.2.length (intsV x.2) ∧ Below w.heap.size w w'
set_option maxHeartbeats 1000000 in
set_option maxRecDepth 100000 in
theorem signed_any (n : Bool) (B b : Nat) (xs : List Int) (w : World) (hl : xs.length ≤ 1048576) (h : NatX (intK n) B b xs w) :
    Calls Tryz.prog 148 #[.pointer (some ⟨b, 0, none⟩)] w (NewSB B (mkS n xs) w) := by
  have hcl : (capL xs).length ≤ 50 := by
    unfold capL
    split
    · simp
    · omega
  have HR := Lib.hid (show mkS n xs = (n && decide (0 < (capL xs).length), capL xs) from rfl)
  have hbb := below_al (Below.refl w.heap.size w) (.cells #[.bool false, .slice none 0 0] 28)
  have kr := box_new w #[.bool false, .slice none 0 0] 28
  have hx : NatX (intK n) B b xs (w.alloc (.cells #[.bool false, .slice none 0 0] 28)) := h.below hbb
  obtain ⟨W0, hW0⟩ : ∃ W0, W0 = w.alloc (.cells #[.bool false, .slice none 0 0] 28) := ⟨_, rfl⟩
  rw [← hW0] at hx hbb kr
  have HW := Lib.hid hW0
  clear hW0
  have cn : W0.cell? ⟨b, 1, none⟩ = some (.bool n) := by
    obtain ⟨_, v, hb, _⟩ := hx
    exact NatX.cell1 hb 0 rfl
  have cz0 := kr.here.cell 0 _ rfl
  have cz1 := kr.here.cell 1 _ rfl
  have fz0 := Lib.frozen_of_heap kr.here 0
  have fz1 := Lib.frozen_of_heap kr.here 1
  have HK := Lib.hid kr
  clear kr h
  cases n
  all_goals
    go_enter Tryz.func148, Tryz.ntmps148
    go_wp2_with fail
    rw [← HW.out]
    refine (natResult_any B b xs _ hl hx).mono ?_
    rintro e w1 ⟨rfl, v1, rfl, o1⟩
    obtain ⟨A1, c1, rfl⟩ := own_len o1
    have HR2 := HR.out
    generalize capL xs = ys at *
    have HO := Lib.hid o1
    have HRR := Lib.hid HR2
    clear o1 hx HR2 HR
    go_wp2
    refine bodyPost_ret (v := .agg #[.bool _, .slice A1 ys.length c1]) (by simp [results, Tryz.results148, go_sem, cz0, cz1]; rfl) rfl ?_
    rw [HRR.out]
    have hne := Lib.ownBlock_ne HO.out HK.out.here (by decide)
    refine ⟨.slice A1 ys.length c1, ?_, own_stays HO.out fun i hi => ?_, below_set2 hbb (Nat.le_refl _)⟩
    · first | rfl | simp
    · have : i ≠ w.heap.size := fun e => hne (by rw [hi, e])
      exact (Below.heap_setCell _ _ _ _ this).trans (Below.heap_setCell _ _ _ _ this)

set_option maxHeartbeats 1000000 in
set_option maxRecDepth 100000 in
theorem withSign_any (v : Value) (x : SI) (n : Bool) (w : World) (hl : x.2.length ≤ 1048576) (h : OwnS v x w) :
    Calls Tryz.prog 209 #[v, .bool n] w (NewS (if okS x = true then mkS n x.2 else zeroS) w) := by
  obtain ⟨u, rfl, ho⟩ := h
  obtain ⟨A, c, rfl⟩ := own_len ho
  have hbb : Below w.heap.size w ((w.alloc (.cells #[.bool x.1, .slice A x.2.length c] 28)).alloc (.cells #[.bool false, .slice none 0 0] 28)) := below_al (below_al (Below.refl _ _) _) _
  have kb := (box_new w #[.bool x.1, .slice A x.2.length c] 28).below (below_al (Below.refl _ _) (.cells #[.bool false, .slice none 0 0] 28))
  have kr := box_new (w.alloc (.cells #[.bool x.1, .slice A x.2.length c] 28)) #[.bool false, .slice none 0 0] 28
  rw [show (w.alloc (.cells #[.bool x.1, .slice A x.2.length c] 28)).heap.size = w.heap.size + 1 by simp] at kr
  have hoB := own_below ho hbb
  have hrd : RdS _ (.agg #[.bool x.1, .slice A x.2.length c]) x := (OwnS.mk (x := x) (ownI_of hoB)).rd
  by_cases ok : okS x = true
  · rw [if_pos ok]
    go_enter Tryz.func209, Tryz.ntmps209
    go_wp2_with fail
    refine (implIntOk_any _ x _ hl hrd).mono ?_
    rintro e w1 ⟨rfl, b1⟩
    rw [ok]
    clear ok
    have bb1 := Below.next hbb b1
    replace kb := kb.below b1
    replace kr := kr.below b1
    have hlt1 : w.heap.size + 1 < w1.heap.size := kr.lt _ (by simp)
    have ho1 := own_below hoB b1
    have cb0 := kb.here.cell 0 _ rfl
    have cb1 := kb.here.cell 1 _ rfl
    clear hoB hrd ho
    go_wp2_with fail
    refine (copyInt_any _ x _ hl (OwnS.mk (x := x) (ownI_of ho1)).rd).mono ?_
    rintro e w2 ⟨b, rfl, hx, b2⟩
    have bb2 := Below.next bb1 b2
    replace kr := kr.below b2
    have fn1 : w2.frozen? ⟨b, 1, none⟩ = false := by
      obtain ⟨_, v, hb, _⟩ := hx
      exact Lib.frozen_of_heap hb 1
    have cn1 : w2.cell? ⟨b, 1, none⟩ = some (.bool x.1) := by
      obtain ⟨_, v, hb, _⟩ := hx
      exact NatX.cell1 hb 0 rfl
    have hx2 := hx.sign n
    have hbr : w1.heap.size ≤ b := hx.1
    have hc2 : Chg [b] w2 (w2.setCell ⟨b, 1, none⟩ (.bool n)) := (Chg.refl _ _).setCell (by simp) _
    have bb3 : Below w.heap.size w (w2.setCell ⟨b, 1, none⟩ (.bool n)) := below_chg bb2 hc2 bb2.size (fun g hg => by simp at hg; have := bb1.size; omega)
    have kr3 := kr.chg hc2 (fun i hi hm => by simp at hi hm; omega)
    clear kr kb cb0 cb1 ho1 hx
    go_wp2_with fail
    refine (signed_any n _ b x.2 _ hl hx2).mono ?_
    rintro e w3 ⟨u3, rfl, o3, b3⟩
    obtain ⟨A3, c3, rfl⟩ := own_len o3
    have bb4 := Below.next bb3 b3
    have kr4 := kr3.below b3
    have cz0 := kr4.here.cell 0 _ rfl
    have cz1 := kr4.here.cell 1 _ rfl
    have fz0 := Lib.frozen_of_heap kr4.here 0
    have fz1 := Lib.frozen_of_heap kr4.here 1
    have HO := Lib.hid o3
    have HK := Lib.hid kr4
    clear o3 kr3 kr4 hc2 hx2
    go_wp2
    refine bodyPost_ret (v := .agg #[.bool _, .slice A3 _ c3]) (by simp [results, Tryz.results209, go_sem, cz0, cz1]; exact ⟨rfl, rfl⟩) rfl ?_
    exact newS_ret HK.out.here HO.out bb1.size (by omega) bb4
  · have ok' : okS x = false := by simpa using ok
    rw [if_neg ok]
    clear ok
    go_enter Tryz.func209, Tryz.ntmps209
    go_wp2_with fail
    refine (implIntOk_any _ x _ hl hrd).mono ?_
    rintro e w1 ⟨rfl, b1⟩
    rw [ok']
    have bb1 := Below.next hbb b1
    replace kr := kr.below b1
    have cz0 := kr.here.cell 0 _ rfl
    have cz1 := kr.here.cell 1 _ rfl
    have fz0 := Lib.frozen_of_heap kr.here 0
    have fz1 := Lib.frozen_of_heap kr.here 1
    clear kb hoB hrd ho
    go_wp2
    refine bodyPost_ret (v := .agg #[.bool false, .slice none 0 0]) (by simp [results, Tryz.results209, go_sem, cz0, cz1]) rfl ?_
    exact newS_zero (below_set2 bb1 (by omega))
theorem natOk_trim {xs : List Int} (h : natOkB xs = true) : trimL xs = xs := by
  rw [ok_trimL h, ← natOk_limbs h]
set_option maxHeartbeats 1000000 in
set_option maxRecDepth 100000 in
theorem implIntNeg_any (v : Value) (x : SI) (w : World) (hl : x.2.length ≤ 1048576) (h : OwnS v x w) :
    Calls Tryz.prog 172 #[v] w (NewS (negS x) w) := by
  have HV := Lib.hid (show (if okS x = true then mkS (!x.1) x.2 else zeroS) = negS x by
    by_cases ok : okS x = true
    · rw [if_pos ok, ← negS_mk ok, natOk_trim (okS_parts ok).1]
    · unfold negS; rw [if_neg ok, if_neg ok])
  obtain ⟨u, rfl, ho⟩ := h
  obtain ⟨A, c, rfl⟩ := own_len ho
  have hbb : Below w.heap.size w ((w.alloc (.cells #[.bool x.1, .slice A x.2.length c] 28)).alloc (.cells #[.bool false, .slice none 0 0] 28)) := below_al (below_al (Below.refl _ _) _) _
  have kr := box_new (w.alloc (.cells #[.bool x.1, .slice A x.2.length c] 28)) #[.bool false, .slice none 0 0] 28
  rw [show (w.alloc (.cells #[.bool x.1, .slice A x.2.length c] 28)).heap.size = w.heap.size + 1 by simp] at kr
  have hoB := OwnS.mk (x := x) (ownI_of (own_below ho hbb))
  clear ho
  go_enter Tryz.func172, Tryz.ntmps172
  go_wp2_with fail
  refine (withSign_any _ x (!x.1) _ hl hoB).mono ?_
  rw [HV.out]
  rintro e w1 ⟨u1, rfl, o1, b1⟩
  generalize negS x = z at *
  obtain ⟨A1, c1, rfl⟩ := own_len o1
  have bb1 := Below.next hbb b1
  replace kr := kr.below b1
  have cz0 := kr.here.cell 0 _ rfl
  have cz1 := kr.here.cell 1 _ rfl
  have fz0 := Lib.frozen_of_heap kr.here 0
  have fz1 := Lib.frozen_of_heap kr.here 1
  have HO := Lib.hid o1
  have HK := Lib.hid kr
  clear o1 kr hoB HV
  go_wp2
  refine bodyPost_ret (v := .agg #[.bool _, .slice A1 _ c1]) (by simp [results, Tryz.results172, go_sem, cz0, cz1]; exact ⟨rfl, rfl⟩) rfl ?_
  exact newS_ret HK.out.here HO.out hbb.size (by omega) bb1

end Go.Proofs.YthfkdofnoomhaaaGreatDoor

namespace Go.Proofs.YthfkdofnoomhaaaGreatDoor
open Go.RowKit

theorem capL_short {xs : List Int} (h : xs.length ≤ 50) : capL xs = xs := by unfold capL; rw [if_neg (by omega)]
theorem capL_res (b : Bool) (n : Int) : mkS b (natRes n) = mkS b (limbs n.toNat) := by
  have e : capL (natRes n) = capL (limbs n.toNat) := by
    unfold natRes
    by_cases h : (limbs n.toNat).length ≤ 50
    · rw [capL_short h, capL_short h]
    · rw [show capL (limbs n.toNat) = [] by unfold capL; rw [if_pos (by omega)]]; rfl
  unfold mkS
  rw [e]
theorem natRes_short (n : Int) : (natRes n).length ≤ 50 := by
  unfold natRes capL
  split
  · simp
  · omega
theorem mulN_short (a b : List Int) : (mulN a b).length ≤ 50 := by unfold mulN; split; exact natRes_short _; simp
theorem mulS_mk {x y : SI} (okx : okS x = true) (oky : okS y = true) : mkS (x.1 != y.1) (mulN x.2 y.2) = mulS x y := by
  have px := okS_parts okx
  have py := okS_parts oky
  have h0x := nval_ok px.1
  have h0y := nval_ok py.1
  have h0 := Int.mul_nonneg h0x h0y
  unfold mulS
  rw [if_pos ⟨okx, oky⟩, mulN_ok px.1 py.1, capL_res, mkS_limbs]
  congr 1
  unfold valS
  rw [Int.toNat_of_nonneg h0]
  cases x.1 <;> cases y.1 <;> simp [Int.neg_mul, Int.mul_neg]
/-- an integer laid early into its block, which was zero -/
theorem NatX.early {n : Bool} {g : Nat} {u c0 c1 : Value} {xs : List Int} {W : World} {B0 B : Nat} (hb : BoxAt g #[c0, c1] 148 W) (o : W.ownsRow B 3 1 u xs.length (intsV xs)) (hB : B0 ≤ B) (hg : B0 ≤ g) :
    NatX (intK n) B0 g xs ((W.setCell ⟨g, 0, none⟩ u).setCell ⟨g, 1, none⟩ (.bool n)) := by
  have hne := Lib.ownBlock_ne o hb (by decide)
  have hb' : W.heap[g]? = some (.cells #[c0, c1] 148 (0, 0)) := hb
  refine ⟨hg, u, by simp [World.setCell, Array.getElem?_modify, hb'], own_low (own_stays o fun i hi => ?_) hB, hne⟩
  have : i ≠ g := fun e => hne (by rw [hi, e])
  exact (Below.heap_setCell _ _ _ _ this).trans (Below.heap_setCell _ _ _ _ this)
theorem NatX.late {n : Bool} {u : Value} {xs : List Int} {W : World} {B0 B : Nat} (o : W.ownsRow B 3 1 u xs.length (intsV xs)) (hB : B0 ≤ B) (hW : B0 ≤ W.heap.size) : NatX (intK n) B0 W.heap.size xs (W.alloc (.cells #[u, .bool n] 148)) :=
  NatX.new (K := intK n) hW (own_low o hB)

set_option maxHeartbeats 4000000 in
set_option maxRecDepth 100000 in
theorem implIntMul_any (vx vy : Value) (x y : SI) (w : World) (hlx : x.2.length ≤ 1048576) (hly : y.2.length ≤ 1048576) (hx : OwnS vx x w) (hy : OwnS vy y w) :
    Calls Tryz.prog 75 #[vx, vy] w (NewS (mulS x y) w) := by
  obtain ⟨ux, rfl, hox⟩ := hx
  obtain ⟨uy, rfl, hoy⟩ := hy
  obtain ⟨Ax, cx, rfl⟩ := own_len hox
  obtain ⟨Ay, cy, rfl⟩ := own_len hoy
  obtain ⟨W0, hW0⟩ : ∃ W0, W0 = ((w.alloc (.cells #[.bool x.1, .slice Ax x.2.length cx] 28)).alloc (.cells #[.bool y.1, .slice Ay y.2.length cy] 28)).alloc (.cells #[.bool false, .slice none 0 0] 28) := ⟨_, rfl⟩
  have hbb : Below w.heap.size w W0 := by rw [hW0]; exact below_al (below_al (below_al (Below.refl _ _) _) _) _
  have h3 := alloc3 w (.cells #[.bool x.1, .slice Ax x.2.length cx] 28) (.cells #[.bool y.1, .slice Ay y.2.length cy] 28) (.cells #[.bool false, .slice none 0 0] 28)
  rw [← hW0] at h3
  have kx : At [w.heap.size] (BoxAt w.heap.size #[.bool x.1, .slice Ax x.2.length cx] 28) W0 := box_at h3.1
  have ky : At [w.heap.size + 1] (BoxAt (w.heap.size + 1) #[.bool y.1, .slice Ay y.2.length cy] 28) W0 := box_at h3.2.1
  have kr : At [w.heap.size + 1 + 1] (BoxAt (w.heap.size + 1 + 1) #[.bool false, .slice none 0 0] 28) W0 := box_at h3.2.2.1
  have ox := own_below hox hbb
  have oy := own_below hoy hbb
  have rdx := (OwnS.mk (x := x) (ownI_of ox)).rd
  have HW := Lib.hid hW0
  have cx0 := kx.here.cell 0 _ rfl
  have cx1 := kx.here.cell 1 _ rfl
  clear h3 hox hoy hW0
  by_cases okx : okS x = true
  · go_enter Tryz.func75, Tryz.ntmps75
    go_wp2_with fail
    rw [← HW.out]
    refine (implIntOk_any _ x _ hlx rdx).mono ?_
    rintro e w1 ⟨rfl, b1⟩
    rw [okx]
    have bb1 := Below.next hbb b1
    replace kx := kx.below b1
    replace ky := ky.below b1
    replace kr := kr.below b1
    replace ox := own_below ox b1
    replace oy := own_below oy b1
    have cy0 := ky.here.cell 0 _ rfl
    have cy1 := ky.here.cell 1 _ rfl
    clear rdx cx0 cx1
    go_wp2_with fail
    refine (implIntOk_any _ y w1 hly (OwnS.mk (x := y) (ownI_of oy)).rd).mono ?_
    rintro e w2 ⟨rfl, b2⟩
    have bb2 := Below.next bb1 b2
    replace kx := kx.below b2
    replace ky := ky.below b2
    replace kr := kr.below b2
    replace ox := own_below ox b2
    replace oy := own_below oy b2
    clear cy0 cy1
    by_cases oky : okS y = true
    · rw [oky]
      have HV := Lib.hid (mulS_mk okx oky)
      have cx0 := kx.here.cell 0 _ rfl
      have cx1 := kx.here.cell 1 _ rfl
      have cy0 := ky.here.cell 0 _ rfl
      have cy1 := ky.here.cell 1 _ rfl
      have HOX := Lib.hid (show ∀ W, Below w2.heap.size w2 W → Row W 0 W.heap.size (.slice Ax x.2.length cx) (intsV x.2) from fun W hb => (ownI_of (own_below ox hb)).row)
      have HOY := Lib.hid (show ∀ W, Below w2.heap.size w2 W → Row W 0 W.heap.size (.slice Ay y.2.length cy) (intsV y.2) from fun W hb => (ownI_of (own_below oy hb)).row)
      have HKR := Lib.hid kr
      have hlt2 : w.heap.size + 1 + 1 < w2.heap.size := kr.lt _ (by simp)
      clear okx oky ox oy kr
      have HKX := Lib.hid kx
      have HKY := Lib.hid ky
      have HMB := Lib.hid (Lib.hid (show mkS (x.1 != y.1) (mulN x.2 y.2) = mulS x y from HV.out))
      have hml : (mulN x.2 y.2).length ≤ 50 := mulN_short x.2 y.2
      clear kx ky b1 b2 HV
      obtain ⟨n, hn, hm⟩ : ∃ n, (x.1 != y.1) = n ∧ (x.1 == y.1) = !n := ⟨_, rfl, by cases x.1 <;> cases y.1 <;> rfl⟩
      have HN := Lib.hid hn
      cases n
      all_goals
        first | rw [Bool.not_false] at hm | rw [Bool.not_true] at hm
        go_upto_region 3 with fail
        go_cut [5] (fun s wx => ∃ b, s = .pointer (some ⟨b, 0, none⟩) ∧ Hid (NatX (intK (x.1 != y.1)) w2.heap.size b (mulN x.2 y.2) wx) ∧ Below w2.heap.size w2 wx)
        case first =>
          have HB0 := Lib.hid (show Below w2.heap.size w2 w2.drew from (Below.refl _ _).drew)
          have KL := Lib.hid (show ∀ W, Below w2.heap.size w2 W → W.cell? ⟨w.heap.size, 0, none⟩ = some (.bool x.1) ∧ W.cell? ⟨w.heap.size, 1, none⟩ = some (.slice Ax x.2.length cx) ∧ W.cell? ⟨w.heap.size + 1, 0, none⟩ = some (.bool y.1) ∧ W.cell? ⟨w.heap.size + 1, 1, none⟩ = some (.slice Ay y.2.length cy) ∧ Hid (Below w2.heap.size w2 W) from
            fun W hb => ⟨(HKX.out.below hb).here.cell 0 _ rfl, (HKX.out.below hb).here.cell 1 _ rfl, (HKY.out.below hb).here.cell 0 _ rfl, (HKY.out.below hb).here.cell 1 _ rfl, Lib.hid hb⟩)
          clear cx0 cx1 cy0 cy1
          go_region_held3 (fun W => W.cell? ⟨w.heap.size, 0, none⟩ = some (.bool x.1) ∧ W.cell? ⟨w.heap.size, 1, none⟩ = some (.slice Ax x.2.length cx) ∧ W.cell? ⟨w.heap.size + 1, 0, none⟩ = some (.bool y.1) ∧ W.cell? ⟨w.heap.size + 1, 1, none⟩ = some (.slice Ay y.2.length cy) ∧ Hid (Below w2.heap.size w2 W))
            ((refine KL.out _ ?_; (first | exact HBf.out | exact HB0.out | exact below_al HBf.out _ | exact below_al HB0.out _ | exact below_set2 HBf.out HB0.out.size | fail)))
            (first
              | (go_at_call 149; (have hBB := (‹_ ∧ _ ∧ _ ∧ _ ∧ Hid (Below w2.heap.size w2 _)›).2.2.2.2); (with_reducible refine (implNatMul_any _ _ x.2 y.2 0 _ 0 _ _ hlx hly (Nat.le_refl _) (Nat.le_refl _) (HOX.out _ hBB.out) (HOY.out _ hBB.out)).mono ?_); rintro e wf ⟨uf, rfl, of, bf⟩; have HBf := Lib.hid (Below.next hBB.out bf); have HBS := Lib.hid hBB.out.size; (try have hbxf : At [w2.heap.size] (BoxAt w2.heap.size #[.slice none 0 0, .bool false] 148) wf := At.below (box_new w2.drew _ _) bf); obtain ⟨Af, cf, rfl⟩ := own_len of; (try (have cz0 := hbxf.here.cell 0 _ rfl; have cz1 := hbxf.here.cell 1 _ rfl; have fz0 := Lib.frozen_of_heap hbxf.here 0; have fz1 := Lib.frozen_of_heap hbxf.here 1)); clear hBB))
          all_goals (go_wp2_with fail; go_meet; first | exact ⟨_, rfl, Lib.hid (by rw [HN.out]; exact NatX.late of HBS.out HBf.out.size), below_al HBf.out _⟩ | exact ⟨_, rfl, Lib.hid (by rw [HN.out]; exact NatX.early hbxf.here of HBS.out (Nat.le_refl _)), below_set2 HBf.out (Nat.le_refl _)⟩)
        rename World => w3
        obtain ⟨b, rfl, HX, b3⟩ := hcut
        have bb3 := Below.next bb2 b3
        have kr3 := HKR.out.below b3
        clear cx0 cx1 cy0 cy1
        go_wp2_with fail
        refine (signed_any _ _ b _ _ (by omega) HX.out).mono ?_
        rw [HMB.out.out]
        rintro e w4 ⟨u4, rfl, o4, b4⟩
        generalize mulS x y = z at *
        obtain ⟨A4, c4, rfl⟩ := own_len o4
        have bb4 := Below.next bb3 b4
        have kr4 := kr3.below b4
        have cz0 := kr4.here.cell 0 _ rfl
        have cz1 := kr4.here.cell 1 _ rfl
        have fz0 := Lib.frozen_of_heap kr4.here 0
        have fz1 := Lib.frozen_of_heap kr4.here 1
        have HO := Lib.hid o4
        have HK := Lib.hid kr4
        clear o4 kr3 kr4 HX HMB
        go_wp2
        refine bodyPost_ret (v := .agg #[.bool _, .slice A4 _ c4]) (by simp [results, Tryz.results75, go_sem, cz0, cz1]; exact ⟨rfl, rfl⟩) rfl ?_
        exact newS_ret HK.out.here HO.out bb2.size (by omega) bb4
    · have oky' : okS y = false := by simpa using oky
      have HV := Lib.hid (show mulS x y = zeroS by unfold mulS; rw [if_neg (fun h => oky h.2)])
      rw [oky']
      have cz0 := kr.here.cell 0 _ rfl
      have cz1 := kr.here.cell 1 _ rfl
      have fz0 := Lib.frozen_of_heap kr.here 0
      have fz1 := Lib.frozen_of_heap kr.here 1
      clear oky kx ky kr ox oy
      go_wp2
      refine bodyPost_ret (v := .agg #[.bool false, .slice none 0 0]) (by simp [results, Tryz.results75, go_sem, cz0, cz1]) rfl ?_
      rw [HV.out]
      exact newS_zero (below_set2 bb2 (by omega))
  · have okx' : okS x = false := by simpa using okx
    have HV := Lib.hid (show mulS x y = zeroS by unfold mulS; rw [if_neg (fun h => okx h.1)])
    clear okx
    go_enter Tryz.func75, Tryz.ntmps75
    go_wp2_with fail
    rw [← HW.out]
    refine (implIntOk_any _ x _ hlx rdx).mono ?_
    rintro e w1 ⟨rfl, b1⟩
    rw [okx']
    have bb1 := Below.next hbb b1
    replace kr := kr.below b1
    have cz0 := kr.here.cell 0 _ rfl
    have cz1 := kr.here.cell 1 _ rfl
    have fz0 := Lib.frozen_of_heap kr.here 0
    have fz1 := Lib.frozen_of_heap kr.here 1
    clear kx ky kr rdx ox oy cx0 cx1
    go_wp2
    refine bodyPost_ret (v := .agg #[.bool false, .slice none 0 0]) (by simp [results, Tryz.results75, go_sem, cz0, cz1]) rfl ?_
    rw [HV.out]
    exact newS_zero (below_set2 bb1 (by omega))
end Go.Proofs.YthfkdofnoomhaaaGreatDoor
