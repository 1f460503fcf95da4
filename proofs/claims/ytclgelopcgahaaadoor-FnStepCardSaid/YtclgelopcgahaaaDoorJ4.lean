/-
  Chapter 7 of package spec: what its functions return.
  Plain facts for impl's fractions: the operations on the parts as RatMake puts them together.
  Contracts of library functions, laid over this program: each is one application of a theorem of the library.
  What math/bits.Div64 returns: the quotient of a number of two words (the remainder is not looked at). Knuth's two digits of 32 bits.
  What NatOk, NatOf, NatCmp and NatInt of package impl return.
  What the methods of impl.nat do to a number of the call's own that is under construction.
  What addAt, addTimes, takeAt, take and trim of impl.nat do to a number of the call's own.
-/
import Derived.Deep.RegionHeld3
import Derived.Shelf.Bits.Mul64
import Derived.Shelf.Small.Bits
import Derived.Test.YtclgelopcgahaaaDoorProg
import Derived.Deep.Cut
import Derived.Deep.CutBlock
import Derived.Laws.Bits64b
import Derived.Lib.BitFns
import Derived.Lib.Builder
import Derived.Lib.SliceRun
import Derived.Deep.LoopGhost
import Derived.Test.YtclgelopcgahaaaDoorJ3
namespace Go.Proofs.YtclgelopcgahaaaDoor
open Go.RowKit

set_option maxHeartbeats 1000000 in
set_option maxRecDepth 100000 in
theorem l06Away_0 (vq vr vd : Value) (neg : Bool) (Q R D : Nat) (w : World) (_ : (limbs Q).length ≤ 50) (hr : (limbs R).length ≤ 18) (hd : (limbs D).length ≤ 18) (oq : OwnI vq (limbs Q) w) (or_ : OwnI vr (limbs R) w) (od : OwnI vd (limbs D) w) :
    Calls Tryd.prog 111 #[.bool neg, vq, vr, vd, .int .i64 0] w (Postb (awayB neg Q R D 0) w) := by
  obtain ⟨Aq, cq, rfl⟩ := own_len oq
  obtain ⟨Ar, cr, rfl⟩ := own_len or_
  obtain ⟨Ad, cd, rfl⟩ := own_len od
  have HOQ := Lib.hid oq
  have HOR := Lib.hid or_
  have HOD := Lib.hid od
  have HTW := Lib.hid (twice_len hr)
  obtain ⟨c, hc⟩ : ∃ c, cmpI ((R : Int) + R + 0) D = c := ⟨_, rfl⟩
  have HC := Lib.hid hc
  have HA := Lib.hid (away_cmp neg Q R D hc)
  have h3 : c = -1 ∨ c = 0 ∨ c = 1 := by rw [← hc]; exact cmp_three _ _
  clear hc oq or_ od
  go_enter Tryd.func111, Tryd.ntmps111
  go_wp2_with fail
  refine (specAdd_any _ _ (limbs R) (limbs R) 0 _ 0 _ _ (by omega) (by omega) (Nat.le_refl _) (Nat.le_refl _) (limbs_digN R) (limbs_digN R) HOR.out.row HOR.out.row).mono ?_
  rintro e w1 ⟨v1, rfl, o1, b1⟩
  obtain ⟨A1, c1, rfl⟩ := own_len o1
  have HO1 := Lib.hid o1
  clear o1
  go_wp2_with fail
  refine (specCmp_any _ _ (addL (limbs R) (limbs R) 0) (limbs D) _ _ _ _ _ (by have := HTW.out.1; omega) (by omega) ⟨HTW.out.2.1, HTW.out.2.2.1⟩ ⟨limbs_digN D, limbs_lastN D⟩ (Row.of_own HO1.out) (HOD.out.belowI b1).row).mono ?_
  rintro e w2 ⟨rfl, q, rfl⟩
  rw [HTW.out.2.2.2, limbs_val, HC.out]
  have bb := below_drewN b1 q
  clear h3
  go_wp2
  go_ret
  exact ⟨ret_bool (rfl), bb⟩
set_option maxHeartbeats 1000000 in
set_option maxRecDepth 100000 in
theorem l06Away_1 (vq vr vd : Value) (neg : Bool) (Q R D : Nat) (w : World) (_ : (limbs Q).length ≤ 50) (hr : (limbs R).length ≤ 18) (hd : (limbs D).length ≤ 18) (oq : OwnI vq (limbs Q) w) (or_ : OwnI vr (limbs R) w) (od : OwnI vd (limbs D) w) :
    Calls Tryd.prog 111 #[.bool neg, vq, vr, vd, .int .i64 1] w (Postb (awayB neg Q R D 1) w) := by
  obtain ⟨Aq, cq, rfl⟩ := own_len oq
  obtain ⟨Ar, cr, rfl⟩ := own_len or_
  obtain ⟨Ad, cd, rfl⟩ := own_len od
  have HOQ := Lib.hid oq
  have HOR := Lib.hid or_
  have HOD := Lib.hid od
  have HTW := Lib.hid (twice_len hr)
  obtain ⟨c, hc⟩ : ∃ c, cmpI ((R : Int) + R + 0) D = c := ⟨_, rfl⟩
  have HC := Lib.hid hc
  have HA := Lib.hid (away_cmp neg Q R D hc)
  have h3 : c = -1 ∨ c = 0 ∨ c = 1 := by rw [← hc]; exact cmp_three _ _
  clear hc oq or_ od
  go_enter Tryd.func111, Tryd.ntmps111
  go_wp2_with fail
  refine (specAdd_any _ _ (limbs R) (limbs R) 0 _ 0 _ _ (by omega) (by omega) (Nat.le_refl _) (Nat.le_refl _) (limbs_digN R) (limbs_digN R) HOR.out.row HOR.out.row).mono ?_
  rintro e w1 ⟨v1, rfl, o1, b1⟩
  obtain ⟨A1, c1, rfl⟩ := own_len o1
  have HO1 := Lib.hid o1
  clear o1
  go_wp2_with fail
  refine (specCmp_any _ _ (addL (limbs R) (limbs R) 0) (limbs D) _ _ _ _ _ (by have := HTW.out.1; omega) (by omega) ⟨HTW.out.2.1, HTW.out.2.2.1⟩ ⟨limbs_digN D, limbs_lastN D⟩ (Row.of_own HO1.out) (HOD.out.belowI b1).row).mono ?_
  rintro e w2 ⟨rfl, q, rfl⟩
  rw [HTW.out.2.2.2, limbs_val, HC.out]
  have bb := below_drewN b1 q
  clear h3
  go_wp2
  go_ret
  exact ⟨ret_bool (rfl), bb⟩
set_option maxHeartbeats 1000000 in
set_option maxRecDepth 100000 in
theorem l06Away_2 (vq vr vd : Value) (neg : Bool) (Q R D : Nat) (w : World) (_ : (limbs Q).length ≤ 50) (hr : (limbs R).length ≤ 18) (hd : (limbs D).length ≤ 18) (oq : OwnI vq (limbs Q) w) (or_ : OwnI vr (limbs R) w) (od : OwnI vd (limbs D) w) :
    Calls Tryd.prog 111 #[.bool neg, vq, vr, vd, .int .i64 2] w (Postb (awayB neg Q R D 2) w) := by
  obtain ⟨Aq, cq, rfl⟩ := own_len oq
  obtain ⟨Ar, cr, rfl⟩ := own_len or_
  obtain ⟨Ad, cd, rfl⟩ := own_len od
  have HOQ := Lib.hid oq
  have HOR := Lib.hid or_
  have HOD := Lib.hid od
  have HTW := Lib.hid (twice_len hr)
  obtain ⟨c, hc⟩ : ∃ c, cmpI ((R : Int) + R + 0) D = c := ⟨_, rfl⟩
  have HC := Lib.hid hc
  have HA := Lib.hid (away_cmp neg Q R D hc)
  have h3 : c = -1 ∨ c = 0 ∨ c = 1 := by rw [← hc]; exact cmp_three _ _
  clear hc oq or_ od
  go_enter Tryd.func111, Tryd.ntmps111
  go_wp2_with fail
  refine (specAdd_any _ _ (limbs R) (limbs R) 0 _ 0 _ _ (by omega) (by omega) (Nat.le_refl _) (Nat.le_refl _) (limbs_digN R) (limbs_digN R) HOR.out.row HOR.out.row).mono ?_
  rintro e w1 ⟨v1, rfl, o1, b1⟩
  obtain ⟨A1, c1, rfl⟩ := own_len o1
  have HO1 := Lib.hid o1
  clear o1
  go_wp2_with fail
  refine (specCmp_any _ _ (addL (limbs R) (limbs R) 0) (limbs D) _ _ _ _ _ (by have := HTW.out.1; omega) (by omega) ⟨HTW.out.2.1, HTW.out.2.2.1⟩ ⟨limbs_digN D, limbs_lastN D⟩ (Row.of_own HO1.out) (HOD.out.belowI b1).row).mono ?_
  rintro e w2 ⟨rfl, q, rfl⟩
  rw [HTW.out.2.2.2, limbs_val, HC.out]
  have bb := below_drewN b1 q
  clear h3
  go_wp2
  go_ret
  exact ⟨ret_bool (rfl), bb⟩
set_option maxHeartbeats 1000000 in
set_option maxRecDepth 100000 in
theorem l06Away_3 (vq vr vd : Value) (neg : Bool) (Q R D : Nat) (w : World) (_ : (limbs Q).length ≤ 50) (hr : (limbs R).length ≤ 18) (hd : (limbs D).length ≤ 18) (oq : OwnI vq (limbs Q) w) (or_ : OwnI vr (limbs R) w) (od : OwnI vd (limbs D) w) :
    Calls Tryd.prog 111 #[.bool neg, vq, vr, vd, .int .i64 3] w (Postb (awayB neg Q R D 3) w) := by
  obtain ⟨Aq, cq, rfl⟩ := own_len oq
  obtain ⟨Ar, cr, rfl⟩ := own_len or_
  obtain ⟨Ad, cd, rfl⟩ := own_len od
  have HOQ := Lib.hid oq
  have HOR := Lib.hid or_
  have HOD := Lib.hid od
  have HTW := Lib.hid (twice_len hr)
  obtain ⟨c, hc⟩ : ∃ c, cmpI ((R : Int) + R + 0) D = c := ⟨_, rfl⟩
  have HC := Lib.hid hc
  have HA := Lib.hid (away_cmp neg Q R D hc)
  have h3 : c = -1 ∨ c = 0 ∨ c = 1 := by rw [← hc]; exact cmp_three _ _
  clear hc oq or_ od
  go_enter Tryd.func111, Tryd.ntmps111
  go_wp2_with fail
  refine (specAdd_any _ _ (limbs R) (limbs R) 0 _ 0 _ _ (by omega) (by omega) (Nat.le_refl _) (Nat.le_refl _) (limbs_digN R) (limbs_digN R) HOR.out.row HOR.out.row).mono ?_
  rintro e w1 ⟨v1, rfl, o1, b1⟩
  obtain ⟨A1, c1, rfl⟩ := own_len o1
  have HO1 := Lib.hid o1
  clear o1
  go_wp2_with fail
  refine (specCmp_any _ _ (addL (limbs R) (limbs R) 0) (limbs D) _ _ _ _ _ (by have := HTW.out.1; omega) (by omega) ⟨HTW.out.2.1, HTW.out.2.2.1⟩ ⟨limbs_digN D, limbs_lastN D⟩ (Row.of_own HO1.out) (HOD.out.belowI b1).row).mono ?_
  rintro e w2 ⟨rfl, q, rfl⟩
  rw [HTW.out.2.2.2, limbs_val, HC.out]
  have bb := below_drewN b1 q
  clear h3
  go_wp2
  go_ret
  exact ⟨ret_bool (rfl), bb⟩
set_option maxHeartbeats 1000000 in
set_option maxRecDepth 100000 in
theorem l06Away_4 (vq vr vd : Value) (neg : Bool) (Q R D : Nat) (w : World) (_ : (limbs Q).length ≤ 50) (hr : (limbs R).length ≤ 18) (hd : (limbs D).length ≤ 18) (oq : OwnI vq (limbs Q) w) (or_ : OwnI vr (limbs R) w) (od : OwnI vd (limbs D) w) :
    Calls Tryd.prog 111 #[.bool neg, vq, vr, vd, .int .i64 4] w (Postb (awayB neg Q R D 4) w) := by
  obtain ⟨Aq, cq, rfl⟩ := own_len oq
  obtain ⟨Ar, cr, rfl⟩ := own_len or_
  obtain ⟨Ad, cd, rfl⟩ := own_len od
  have HOQ := Lib.hid oq
  have HOR := Lib.hid or_
  have HOD := Lib.hid od
  have HTW := Lib.hid (twice_len hr)
  obtain ⟨c, hc⟩ : ∃ c, cmpI ((R : Int) + R + 0) D = c := ⟨_, rfl⟩
  have HC := Lib.hid hc
  have HA := Lib.hid (away_cmp neg Q R D hc)
  have h3 : c = -1 ∨ c = 0 ∨ c = 1 := by rw [← hc]; exact cmp_three _ _
  clear hc oq or_ od
  go_enter Tryd.func111, Tryd.ntmps111
  go_wp2_with fail
  refine (specAdd_any _ _ (limbs R) (limbs R) 0 _ 0 _ _ (by omega) (by omega) (Nat.le_refl _) (Nat.le_refl _) (limbs_digN R) (limbs_digN R) HOR.out.row HOR.out.row).mono ?_
  rintro e w1 ⟨v1, rfl, o1, b1⟩
  obtain ⟨A1, c1, rfl⟩ := own_len o1
  have HO1 := Lib.hid o1
  clear o1
  go_wp2_with fail
  refine (specCmp_any _ _ (addL (limbs R) (limbs R) 0) (limbs D) _ _ _ _ _ (by have := HTW.out.1; omega) (by omega) ⟨HTW.out.2.1, HTW.out.2.2.1⟩ ⟨limbs_digN D, limbs_lastN D⟩ (Row.of_own HO1.out) (HOD.out.belowI b1).row).mono ?_
  rintro e w2 ⟨rfl, q, rfl⟩
  rw [HTW.out.2.2.2, limbs_val, HC.out]
  have bb := below_drewN b1 q
  clear h3
  go_wp2
  go_ret
  exact ⟨ret_bool HA.out.1.symm, bb⟩
set_option maxHeartbeats 1000000 in
set_option maxRecDepth 100000 in
theorem l06Away_5 (vq vr vd : Value) (neg : Bool) (Q R D : Nat) (w : World) (_ : (limbs Q).length ≤ 50) (hr : (limbs R).length ≤ 18) (hd : (limbs D).length ≤ 18) (oq : OwnI vq (limbs Q) w) (or_ : OwnI vr (limbs R) w) (od : OwnI vd (limbs D) w) :
    Calls Tryd.prog 111 #[.bool neg, vq, vr, vd, .int .i64 5] w (Postb (awayB neg Q R D 5) w) := by
  obtain ⟨Aq, cq, rfl⟩ := own_len oq
  obtain ⟨Ar, cr, rfl⟩ := own_len or_
  obtain ⟨Ad, cd, rfl⟩ := own_len od
  have HOQ := Lib.hid oq
  have HOR := Lib.hid or_
  have HOD := Lib.hid od
  have HTW := Lib.hid (twice_len hr)
  obtain ⟨c, hc⟩ : ∃ c, cmpI ((R : Int) + R + 0) D = c := ⟨_, rfl⟩
  have HC := Lib.hid hc
  have HA := Lib.hid (away_cmp neg Q R D hc)
  have h3 : c = -1 ∨ c = 0 ∨ c = 1 := by rw [← hc]; exact cmp_three _ _
  clear hc oq or_ od
  go_enter Tryd.func111, Tryd.ntmps111
  go_wp2_with fail
  refine (specAdd_any _ _ (limbs R) (limbs R) 0 _ 0 _ _ (by omega) (by omega) (Nat.le_refl _) (Nat.le_refl _) (limbs_digN R) (limbs_digN R) HOR.out.row HOR.out.row).mono ?_
  rintro e w1 ⟨v1, rfl, o1, b1⟩
  obtain ⟨A1, c1, rfl⟩ := own_len o1
  have HO1 := Lib.hid o1
  clear o1
  go_wp2_with fail
  refine (specCmp_any _ _ (addL (limbs R) (limbs R) 0) (limbs D) _ _ _ _ _ (by have := HTW.out.1; omega) (by omega) ⟨HTW.out.2.1, HTW.out.2.2.1⟩ ⟨limbs_digN D, limbs_lastN D⟩ (Row.of_own HO1.out) (HOD.out.belowI b1).row).mono ?_
  rintro e w2 ⟨rfl, q, rfl⟩
  rw [HTW.out.2.2.2, limbs_val, HC.out]
  have bb := below_drewN b1 q
  clear h3
  go_wp2
  go_ret
  exact ⟨ret_bool HA.out.2.1.symm, bb⟩
set_option maxHeartbeats 1000000 in
set_option maxRecDepth 100000 in
theorem l06Away_6 (vq vr vd : Value) (neg : Bool) (Q R D : Nat) (w : World) (hq : (limbs Q).length ≤ 50) (hr : (limbs R).length ≤ 18) (hd : (limbs D).length ≤ 18) (oq : OwnI vq (limbs Q) w) (or_ : OwnI vr (limbs R) w) (od : OwnI vd (limbs D) w) :
    Calls Tryd.prog 111 #[.bool neg, vq, vr, vd, .int .i64 6] w (Postb (awayB neg Q R D 6) w) := by
  obtain ⟨Aq, cq, rfl⟩ := own_len oq
  obtain ⟨Ar, cr, rfl⟩ := own_len or_
  obtain ⟨Ad, cd, rfl⟩ := own_len od
  have HOQ := Lib.hid oq
  have HOR := Lib.hid or_
  have HOD := Lib.hid od
  have HTW := Lib.hid (twice_len hr)
  obtain ⟨c, hc⟩ : ∃ c, cmpI ((R : Int) + R + 0) D = c := ⟨_, rfl⟩
  have HC := Lib.hid hc
  have HA := Lib.hid (away_cmp neg Q R D hc)
  have h3 : c = -1 ∨ c = 0 ∨ c = 1 := by rw [← hc]; exact cmp_three _ _
  clear hc oq or_ od
  go_enter Tryd.func111, Tryd.ntmps111
  go_wp2_with fail
  refine (specAdd_any _ _ (limbs R) (limbs R) 0 _ 0 _ _ (by omega) (by omega) (Nat.le_refl _) (Nat.le_refl _) (limbs_digN R) (limbs_digN R) HOR.out.row HOR.out.row).mono ?_
  rintro e w1 ⟨v1, rfl, o1, b1⟩
  obtain ⟨A1, c1, rfl⟩ := own_len o1
  have HO1 := Lib.hid o1
  clear o1
  go_wp2_with fail
  refine (specCmp_any _ _ (addL (limbs R) (limbs R) 0) (limbs D) _ _ _ _ _ (by have := HTW.out.1; omega) (by omega) ⟨HTW.out.2.1, HTW.out.2.2.1⟩ ⟨limbs_digN D, limbs_lastN D⟩ (Row.of_own HO1.out) (HOD.out.belowI b1).row).mono ?_
  rintro e w2 ⟨rfl, q, rfl⟩
  rw [HTW.out.2.2.2, limbs_val, HC.out]
  have bb := below_drewN b1 q
  rcases h3 with rfl | rfl | rfl
  · go_wp2
    go_ret
    exact ⟨ret_bool (HA.out.2.2.trans (by simp)).symm, bb⟩
  · have he : decide (Q % 2 = 1) = !decide (Q % 2 = 0) := by rcases Nat.mod_two_eq_zero_or_one Q with h | h <;> rw [h] <;> rfl
    have HV := Lib.hid (show awayB neg Q R D 6 = !decide (Q % 2 = 0) by rw [HA.out.2.2, he]; rfl)
    clear he HA
    go_wp2_with fail
    refine (specNatEven_any _ (limbs Q) 0 _ _ (by omega) (HOQ.out.belowI (below_drewN b1 q)).row).mono ?_
    rintro e w3 ⟨rfl, rfl⟩
    rw [even_limbs hq]
    generalize decide (Q % 2 = 0) = b at *
    cases b
    · go_wp2
      go_ret
      exact ⟨ret_bool HV.out.symm, bb⟩
    · go_wp2
      go_ret
      exact ⟨ret_bool HV.out.symm, bb⟩
  · go_wp2
    go_ret
    exact ⟨ret_bool (HA.out.2.2.trans (by simp)).symm, bb⟩
theorem l06Away_any (vq vr vd : Value) (neg : Bool) (Q R D : Nat) (w : World) (hq : (limbs Q).length ≤ 50) (hr : (limbs R).length ≤ 18) (hd : (limbs D).length ≤ 18) (oq : OwnI vq (limbs Q) w) (or_ : OwnI vr (limbs R) w) (od : OwnI vd (limbs D) w) (m : Int) (hm : modeB m = true) :
    Calls Tryd.prog 111 #[.bool neg, vq, vr, vd, .int .i64 m] w (Postb (awayB neg Q R D m) w) := by
  rcases modeB_cases hm with rfl | rfl | rfl | rfl | rfl | rfl | rfl
  · exact l06Away_0 vq vr vd neg Q R D w hq hr hd oq or_ od
  · exact l06Away_1 vq vr vd neg Q R D w hq hr hd oq or_ od
  · exact l06Away_2 vq vr vd neg Q R D w hq hr hd oq or_ od
  · exact l06Away_3 vq vr vd neg Q R D w hq hr hd oq or_ od
  · exact l06Away_4 vq vr vd neg Q R D w hq hr hd oq or_ od
  · exact l06Away_5 vq vr vd neg Q R D w hq hr hd oq or_ od
  · exact l06Away_6 vq vr vd neg Q R D w hq hr hd oq or_ od
set_option maxHeartbeats 2000000 in
set_option maxRecDepth 100000 in
theorem l06Round_any (vr : Value) (r : QI) (m : Int) (w : World) (ok : okQ r = true) (hm : modeB m = true) (hr : OwnQ vr r w) :
    Calls Tryd.prog 70 #[vr, .int .i64 m] w (NewV (fun u => OwnS u (roundS r m)) w) := by
  have Hr := Lib.hid hr
  obtain ⟨Ar, cr, Br, dr, rfl⟩ := ownQ_form hr
  have OQr := Lib.hid (show ∀ W, Below w.heap.size w W → OwnQ (.agg #[.bool r.1.1, .slice Ar r.1.2.length cr, .slice Br r.2.length dr]) r W from fun W hb => OwnQ.below Hr.out hb)
  have OUr := Lib.hid (show ∀ W, Below w.heap.size w W → OwnI (.slice Ar r.1.2.length cr) r.1.2 W from fun W hb => (ownQ_open (OQr.out W hb)).2.1)
  have ODr := Lib.hid (show ∀ W, Below w.heap.size w W → OwnI (.slice Br r.2.length dr) r.2 W from fun W hb => (ownQ_open (OQr.out W hb)).2.2.1)
  have OSr := Lib.hid (show ∀ W, Below w.heap.size w W → OwnS (.agg #[.bool r.1.1, .slice Ar r.1.2.length cr]) r.1 W from fun W hb => OwnS.mk (OUr.out W hb))
  clear hr
  have HP := Lib.hid (parts_of ok)
  have HOK := Lib.hid ok
  have HM := Lib.hid hm
  clear ok hm
  have bb0 : Below w.heap.size w ((w.alloc (.cells #[.bool r.1.1, .slice Ar r.1.2.length cr, .slice Br r.2.length dr] 27)).alloc (.cells #[.bool false, .slice none 0 0] 25)) := below_al (below_al (Below.refl _ _) _) _
  have kr := (box_new w #[.bool r.1.1, .slice Ar r.1.2.length cr, .slice Br r.2.length dr] 27).below (below_al (Below.refl _ _) (.cells #[.bool false, .slice none 0 0] 25))
  have ko := (box_new (w.alloc (.cells #[.bool r.1.1, .slice Ar r.1.2.length cr, .slice Br r.2.length dr] 27)) #[.bool false, .slice none 0 0] 25)
  rw [show (w.alloc (.cells #[.bool r.1.1, .slice Ar r.1.2.length cr, .slice Br r.2.length dr] 27)).heap.size = w.heap.size + 1 by simp] at ko
  have HKO := Lib.hid (ko.lt (w.heap.size + 1) (by simp))
  obtain ⟨Q, hQ⟩ : ∃ Q, topN r / denQ r = Q := ⟨_, rfl⟩
  obtain ⟨R, hR⟩ : ∃ R, topN r % denQ r = R := ⟨_, rfl⟩
  have EQ := Lib.hid hQ
  have ER := Lib.hid hR
  have hql : (limbs Q).length ≤ 18 := by rw [← hQ]; exact quot_len HOK.out
  have hrl : (limbs R).length ≤ 18 := by rw [← hR]; exact rest_len HOK.out
  have hnl := HP.out.n50
  have hdl := HP.out.d50
  have hdv : ∀ W, Below w.heap.size w W → Calls Tryd.prog 110 #[.slice Ar r.1.2.length cr, .slice Br r.2.length dr] W (TwoRows (limbs Q) (limbs R) W) := fun W hb => by
    have h := specDiv_any _ _ r.1.2 r.2 0 _ 0 _ W (by omega) (by omega) (okQ_parts HOK.out).2.2.1 (Nat.le_refl _) (Nat.le_refl _) (natOk_parts (okS_parts HP.out.okn).1).1 ⟨(natOk_parts HP.out.okd).1, (natOk_parts HP.out.okd).2.2⟩ (OUr.out _ hb).row (ODr.out _ hb).row
    rw [quot_of HOK.out, rest_of HOK.out, hQ, hR] at h
    exact h
  have HDV := Lib.hid hdv
  clear hdv hQ hR
  go_enter Tryd.func70, Tryd.ntmps70
  have kr_c0 := kr.here.cell 0 _ rfl
  have kr_c1 := kr.here.cell 1 _ rfl
  have kr_c2 := kr.here.cell 2 _ rfl
  go_wp2_with fail
  clear kr_c0 kr_c1 kr_c2
  refine (HDV.out _ bb0).mono ?_
  rintro e w1 ⟨vq, vr_, rfl, oq0, or0, hqr, b1⟩
  obtain ⟨Aq, cq, rfl⟩ := own_len oq0
  obtain ⟨As, cs, rfl⟩ := own_len or0
  have oq := own_at' oq0
  have os := own_at' or0
  clear oq0 or0 hqr
  have bb1 := Below.next bb0 b1
  replace kr := kr.below b1
  replace ko := ko.below b1
  by_cases h0 : R = 0
  · have HV := Lib.hid (show mkS r.1.1 (trimL (limbs Q)) = roundS r m by rw [trimL_limbs, ← EQ.out]; exact round_plain (.inl (ER.out.trans h0)))
    subst h0
    rw [show (limbs 0).length = 0 by rw [limbs_zero]; rfl] at *
    clear os
    have kr_c0 := kr.here.cell 0 _ rfl
    have kr_c1 := kr.here.cell 1 _ rfl
    have kr_c2 := kr.here.cell 2 _ rfl
    go_wp2_with fail
    clear kr_c0 kr_c1 kr_c2
    refine ((l04Make_any _ _ (limbs Q) _ _ (by omega) (At.here oq)).mono fun _ _ h => roundVS_eq HV.out (NewS.newV h)).mono ?_
    rintro e w2 ⟨uf, Sf, rfl, of, lf, b2⟩
    obtain ⟨Af, cf, rfl⟩ := ownS_form of.here
    have bb2 := Below.next bb1 b2
    replace kr := kr.below b2
    replace ko := ko.below b2
    replace oq := oq.below b2
    have HW := Lib.hid (newS_at (r := w.heap.size + 1) of lf (by have := HKO.out; have := b1.size; omega) (by omega) bb2)
    have cz0 := ko.here.cell 0 _ rfl
    have fz0 := Lib.frozen_of_heap ko.here 0
    have cz1 := ko.here.cell 1 _ rfl
    have fz1 := Lib.frozen_of_heap ko.here 1
    clear of ko
    go_wp2
    refine bodyPost_ret (v := .agg #[.bool _, .slice Af _ cf]) (by simp [results, Tryd.results70, go_sem, cz0, cz1]; exact ⟨rfl, rfl⟩) rfl ?_
    exact HW.out
  · have hlen : ((limbs R).length : Int) > 0 := by have := mt (limbs_zero_iff R).1 h0; omega
    have H0 := Lib.hid h0
    clear h0
    have kr_c0 := kr.here.cell 0 _ rfl
    have kr_c1 := kr.here.cell 1 _ rfl
    have kr_c2 := kr.here.cell 2 _ rfl
    go_wp2_with fail
    clear kr_c0 kr_c1 kr_c2
    refine (l06Away_any _ _ _ r.1.1 Q R (denQ r) _ (by omega) hrl (by have := HP.out.d50; have e := HP.out.d; rw [← e]; exact (okQ_parts HOK.out).2.2.2.1) oq.here os.here (ownI_eq (ODr.out _ bb1) HP.out.d) m HM.out).mono ?_
    rintro e w2 ⟨rfl, b2⟩
    have bb2 := Below.next bb1 b2
    replace kr := kr.below b2
    replace ko := ko.below b2
    replace oq := oq.below b2
    replace os := os.below b2
    by_cases ha : awayB r.1.1 Q R (denQ r) m = true
    · have HV := Lib.hid (show mkS r.1.1 (trimL (addL (limbs Q) [1] 0)) = roundS r m by rw [one_more, ← EQ.out]; exact round_more (by rw [ER.out]; exact H0.out) (by rw [EQ.out, ER.out]; exact ha))
      rw [ha]
      clear ha
      have o1 := World.ownsRow_lit (base := w2.heap.size) (e := 3) (size := 1) w2 #[.int .i64 1] 1 (Nat.le_refl _) (by unfold maxLen; omega) rfl
      have HO1 := Lib.hid o1
      clear o1
      have kt := box_new (w2) #[.int .i64 1] 3
      have alt := below_al (Below.refl (w2).heap.size (w2)) (.cells #[.int .i64 1] 3)
      have bbt := Below.next bb2 alt
      replace kr := kr.below alt
      replace ko := ko.below alt
      replace oq := oq.below alt
      replace os := os.below alt
      go_wp2_with fail
      refine (specAdd_any _ _ (limbs Q) [1] 0 _ _ _ _ (by omega) (by decide) (Nat.le_refl _) (Nat.le_refl _) (limbs_digN Q) (by rw [← one_limbs]; exact limbs_digN 1) oq.here.row (Row.of_own HO1.out)).mono ?_
      rintro e w3 ⟨vs, rfl, osum0, b3⟩
      obtain ⟨Az, cz, rfl⟩ := own_len osum0
      have osum := own_at' osum0
      clear osum0
      have bb3 := Below.next bbt b3
      replace kr := kr.below b3
      replace ko := ko.below b3
      replace oq := oq.below b3
      replace os := os.below b3
      replace kt := kt.below b3
      have hsl : (addL (limbs Q) [1] 0).length ≤ 1048576 := by have := (addL_val (limbs Q) [1] 0 (limbs_digN Q) (by rw [← one_limbs]; exact limbs_digN 1) (by omega) (by omega)).2.2; simp only [List.length_cons, List.length_nil] at this; omega
      clear oq os kt
      have kr_c0 := kr.here.cell 0 _ rfl
      have kr_c1 := kr.here.cell 1 _ rfl
      have kr_c2 := kr.here.cell 2 _ rfl
      go_wp2_with fail
      clear kr_c0 kr_c1 kr_c2
      refine ((l04Make_any _ _ (addL (limbs Q) [1] 0) _ _ (hsl) (At.here osum)).mono fun _ _ h => roundVS_eq HV.out (NewS.newV h)).mono ?_
      rintro e w4 ⟨uf, Sf, rfl, of, lf, b4⟩
      obtain ⟨Af, cf, rfl⟩ := ownS_form of.here
      have bb4 := Below.next bb3 b4
      replace kr := kr.below b4
      replace ko := ko.below b4
      replace osum := osum.below b4
      have HW := Lib.hid (newS_at (r := w.heap.size + 1) of lf (by have := HKO.out; have := b1.size; have := b2.size; have := b3.size; have := alt.size; omega) (by omega) bb4)
      have cz0 := ko.here.cell 0 _ rfl
      have fz0 := Lib.frozen_of_heap ko.here 0
      have cz1 := ko.here.cell 1 _ rfl
      have fz1 := Lib.frozen_of_heap ko.here 1
      clear of ko
      go_wp2
      refine bodyPost_ret (v := .agg #[.bool _, .slice Af _ cf]) (by simp [results, Tryd.results70, go_sem, cz0, cz1]; exact ⟨rfl, rfl⟩) rfl ?_
      exact HW.out
    · have ha' : awayB r.1.1 Q R (denQ r) m = false := by simpa using ha
      have HV := Lib.hid (show mkS r.1.1 (trimL (limbs Q)) = roundS r m by rw [trimL_limbs, ← EQ.out]; exact round_plain (.inr (by rw [EQ.out, ER.out]; exact ha')))
      rw [ha']
      clear ha ha' os
      have kr_c0 := kr.here.cell 0 _ rfl
      have kr_c1 := kr.here.cell 1 _ rfl
      have kr_c2 := kr.here.cell 2 _ rfl
      go_wp2_with fail
      clear kr_c0 kr_c1 kr_c2
      refine ((l04Make_any _ _ (limbs Q) _ _ (by omega) (At.here oq)).mono fun _ _ h => roundVS_eq HV.out (NewS.newV h)).mono ?_
      rintro e w3 ⟨uf, Sf, rfl, of, lf, b3⟩
      obtain ⟨Af, cf, rfl⟩ := ownS_form of.here
      have bb3 := Below.next bb2 b3
      replace kr := kr.below b3
      replace ko := ko.below b3
      replace oq := oq.below b3
      have HW := Lib.hid (newS_at (r := w.heap.size + 1) of lf (by have := HKO.out; have := b1.size; have := b2.size; omega) (by omega) bb3)
      have cz0 := ko.here.cell 0 _ rfl
      have fz0 := Lib.frozen_of_heap ko.here 0
      have cz1 := ko.here.cell 1 _ rfl
      have fz1 := Lib.frozen_of_heap ko.here 1
      clear of ko
      go_wp2
      refine bodyPost_ret (v := .agg #[.bool _, .slice Af _ cf]) (by simp [results, Tryd.results70, go_sem, cz0, cz1]; exact ⟨rfl, rfl⟩) rfl ?_
      exact HW.out
set_option maxHeartbeats 2000000 in
set_option maxRecDepth 100000 in
theorem specRatRound_any (vr : Value) (r : QI) (m : Int) (w : World) (hz : szQ r ≤ 1048576) (hr : OwnQ vr r w) :
    Calls Tryd.prog 29 #[vr, .int .i64 m] w (PostSb (roundR r m).1 (roundR r m).2 w) := by
  have Hr := Lib.hid hr
  obtain ⟨Ar, cr, Br, dr, rfl⟩ := ownQ_form hr
  have OQr := Lib.hid (show ∀ W, Below w.heap.size w W → OwnQ (.agg #[.bool r.1.1, .slice Ar r.1.2.length cr, .slice Br r.2.length dr]) r W from fun W hb => OwnQ.below Hr.out hb)
  have OUr := Lib.hid (show ∀ W, Below w.heap.size w W → OwnI (.slice Ar r.1.2.length cr) r.1.2 W from fun W hb => (ownQ_open (OQr.out W hb)).2.1)
  have ODr := Lib.hid (show ∀ W, Below w.heap.size w W → OwnI (.slice Br r.2.length dr) r.2 W from fun W hb => (ownQ_open (OQr.out W hb)).2.2.1)
  have OSr := Lib.hid (show ∀ W, Below w.heap.size w W → OwnS (.agg #[.bool r.1.1, .slice Ar r.1.2.length cr]) r.1 W from fun W hb => OwnS.mk (OUr.out W hb))
  clear hr
  have bb0 : Below w.heap.size w ((w.alloc (.cells #[.bool r.1.1, .slice Ar r.1.2.length cr, .slice Br r.2.length dr] 27)).alloc (.cells #[.bool false, .slice none 0 0] 25)) := below_al (below_al (Below.refl _ _) _) _
  have kr := (box_new w #[.bool r.1.1, .slice Ar r.1.2.length cr, .slice Br r.2.length dr] 27).below (below_al (Below.refl _ _) (.cells #[.bool false, .slice none 0 0] 25))
  have ko := (box_new (w.alloc (.cells #[.bool r.1.1, .slice Ar r.1.2.length cr, .slice Br r.2.length dr] 27)) #[.bool false, .slice none 0 0] 25)
  rw [show (w.alloc (.cells #[.bool r.1.1, .slice Ar r.1.2.length cr, .slice Br r.2.length dr] 27)).heap.size = w.heap.size + 1 by simp] at ko
  have HKO := Lib.hid (ko.lt (w.heap.size + 1) (by simp))
  go_enter Tryd.func29, Tryd.ntmps29
  have kr_c0 := kr.here.cell 0 _ rfl
  have kr_c1 := kr.here.cell 1 _ rfl
  have kr_c2 := kr.here.cell 2 _ rfl
  go_wp2_with fail
  clear kr_c0 kr_c1 kr_c2
  refine (specRatOk_any _ r _ hz (OQr.out _ bb0)).mono ?_
  rintro e w1 ⟨rfl, b1⟩
  have bb1 := Below.next bb0 b1
  replace kr := kr.below b1
  replace ko := ko.below b1
  by_cases ok : okQ r = true
  · rw [ok]
    have HO := Lib.hid ok
    clear ok
    go_wp2_with fail
    refine (l06Mode_any m _).mono ?_
    rintro e w2 ⟨rfl, b2⟩
    have bb2 := Below.next bb1 b2
    replace kr := kr.below b2
    replace ko := ko.below b2
    by_cases hm : modeB m = true
    · rw [hm]
      have HM := Lib.hid hm
      have HV := Lib.hid (show roundR r m = (roundS r m, true) by unfold roundR; rw [if_pos ⟨HO.out, hm⟩])
      clear hm
      have kr_c0 := kr.here.cell 0 _ rfl
      have kr_c1 := kr.here.cell 1 _ rfl
      have kr_c2 := kr.here.cell 2 _ rfl
      go_wp2_with fail
      clear kr_c0 kr_c1 kr_c2
      refine (l06Round_any _ r m _ HO.out HM.out (OQr.out _ bb2)).mono ?_
      rintro e w3 ⟨uf, Sf, rfl, of, lf, b3⟩
      obtain ⟨Af, cf, rfl⟩ := ownS_form of.here
      have bb3 := Below.next bb2 b3
      replace kr := kr.below b3
      replace ko := ko.below b3
      have HW := Lib.hid (newSb_at (b := true) (r := w.heap.size + 1) of lf (by have := HKO.out; have := b1.size; have := b2.size; omega) (by omega) bb3)
      have cz0 := ko.here.cell 0 _ rfl
      have fz0 := Lib.frozen_of_heap ko.here 0
      have cz1 := ko.here.cell 1 _ rfl
      have fz1 := Lib.frozen_of_heap ko.here 1
      clear of ko
      go_wp2
      refine bodyPost_ret (v := .tuple #[.agg #[.bool _, .slice Af _ cf], .bool _]) (by simp [results, Tryd.results29, go_sem, cz0, cz1]; exact ⟨⟨rfl, rfl⟩, rfl⟩) rfl ?_
      rw [HV.out]
      exact HW.out
    · have hm' : modeB m = false := by simpa using hm
      have HV := Lib.hid (show roundR r m = (zeroS, false) by unfold roundR; rw [if_neg (fun h => hm h.2)])
      rw [hm']
      clear hm hm'
      have cz0 := ko.here.cell 0 _ rfl
      have fz0 := Lib.frozen_of_heap ko.here 0
      have cz1 := ko.here.cell 1 _ rfl
      have fz1 := Lib.frozen_of_heap ko.here 1
      go_wp2
      refine bodyPost_ret (v := .tuple #[.agg #[.bool false, .slice none 0 0], .bool false]) (by simp [results, Tryd.results29, go_sem, cz0, cz1]) rfl ?_
      rw [HV.out]
      first | exact newSb_zero _ bb2 | exact newSb_zero _ (below_set2 bb2 (by omega))
  · have ok' : okQ r = false := by simpa using ok
    have HV := Lib.hid (show roundR r m = (zeroS, false) by unfold roundR; rw [if_neg (fun h => ok h.1)])
    rw [ok']
    clear ok ok'
    have cz0 := ko.here.cell 0 _ rfl
    have fz0 := Lib.frozen_of_heap ko.here 0
    have cz1 := ko.here.cell 1 _ rfl
    have fz1 := Lib.frozen_of_heap ko.here 1
    go_wp2
    refine bodyPost_ret (v := .tuple #[.agg #[.bool false, .slice none 0 0], .bool false]) (by simp [results, Tryd.results29, go_sem, cz0, cz1]) rfl ?_
    rw [HV.out]
    first | exact newSb_zero _ bb1 | exact newSb_zero _ (below_set2 bb1 (by omega))
set_option maxHeartbeats 1000000 in
set_option maxRecDepth 100000 in
theorem specRatFloor_any (vr : Value) (r : QI) (w : World) (hz : szQ r ≤ 1048576) (hr : OwnQ vr r w) :
    Calls Tryd.prog 36 #[vr] w (PostSb (roundR r 2).1 (roundR r 2).2 w) := by
  have Hr := Lib.hid hr
  obtain ⟨Ar, cr, Br, dr, rfl⟩ := ownQ_form hr
  have OQr := Lib.hid (show ∀ W, Below w.heap.size w W → OwnQ (.agg #[.bool r.1.1, .slice Ar r.1.2.length cr, .slice Br r.2.length dr]) r W from fun W hb => OwnQ.below Hr.out hb)
  have OUr := Lib.hid (show ∀ W, Below w.heap.size w W → OwnI (.slice Ar r.1.2.length cr) r.1.2 W from fun W hb => (ownQ_open (OQr.out W hb)).2.1)
  have ODr := Lib.hid (show ∀ W, Below w.heap.size w W → OwnI (.slice Br r.2.length dr) r.2 W from fun W hb => (ownQ_open (OQr.out W hb)).2.2.1)
  have OSr := Lib.hid (show ∀ W, Below w.heap.size w W → OwnS (.agg #[.bool r.1.1, .slice Ar r.1.2.length cr]) r.1 W from fun W hb => OwnS.mk (OUr.out W hb))
  clear hr
  have bb0 : Below w.heap.size w ((w.alloc (.cells #[.bool r.1.1, .slice Ar r.1.2.length cr, .slice Br r.2.length dr] 27)).alloc (.cells #[.bool false, .slice none 0 0] 25)) := below_al (below_al (Below.refl _ _) _) _
  have kr := (box_new w #[.bool r.1.1, .slice Ar r.1.2.length cr, .slice Br r.2.length dr] 27).below (below_al (Below.refl _ _) (.cells #[.bool false, .slice none 0 0] 25))
  have ko := (box_new (w.alloc (.cells #[.bool r.1.1, .slice Ar r.1.2.length cr, .slice Br r.2.length dr] 27)) #[.bool false, .slice none 0 0] 25)
  rw [show (w.alloc (.cells #[.bool r.1.1, .slice Ar r.1.2.length cr, .slice Br r.2.length dr] 27)).heap.size = w.heap.size + 1 by simp] at ko
  have HKO := Lib.hid (ko.lt (w.heap.size + 1) (by simp))
  go_enter Tryd.func36, Tryd.ntmps36
  have kr_c0 := kr.here.cell 0 _ rfl
  have kr_c1 := kr.here.cell 1 _ rfl
  have kr_c2 := kr.here.cell 2 _ rfl
  go_wp2_with fail
  clear kr_c0 kr_c1 kr_c2
  refine (specRatRound_any _ r 2 _ hz (OQr.out _ bb0)).mono ?_
  rintro e w1 ⟨uf, Sf, rfl, of, lf, b1⟩
  obtain ⟨Af, cf, rfl⟩ := ownS_form of.here
  have bb1 := Below.next bb0 b1
  replace kr := kr.below b1
  replace ko := ko.below b1
  have HW := Lib.hid (newSb_at (b := (roundR r 2).2) (r := w.heap.size + 1) of lf (by have := HKO.out; omega) (by omega) bb1)
  have cz0 := ko.here.cell 0 _ rfl
  have fz0 := Lib.frozen_of_heap ko.here 0
  have cz1 := ko.here.cell 1 _ rfl
  have fz1 := Lib.frozen_of_heap ko.here 1
  clear of ko
  go_wp2
  refine bodyPost_ret (v := .tuple #[.agg #[.bool _, .slice Af _ cf], .bool _]) (by simp [results, Tryd.results36, go_sem, cz0, cz1]; exact ⟨⟨rfl, rfl⟩, rfl⟩) rfl ?_
  exact HW.out
set_option maxHeartbeats 1000000 in
set_option maxRecDepth 100000 in
theorem specRatWhole_any (vr : Value) (r : QI) (w : World) (hz : szQ r ≤ 1048576) (hr : OwnQ vr r w) :
    Calls Tryd.prog 37 #[vr] w (Postb (wholeB r) w) := by
  have Hr := Lib.hid hr
  obtain ⟨Ar, cr, Br, dr, rfl⟩ := ownQ_form hr
  have OQr := Lib.hid (show ∀ W, Below w.heap.size w W → OwnQ (.agg #[.bool r.1.1, .slice Ar r.1.2.length cr, .slice Br r.2.length dr]) r W from fun W hb => OwnQ.below Hr.out hb)
  have OUr := Lib.hid (show ∀ W, Below w.heap.size w W → OwnI (.slice Ar r.1.2.length cr) r.1.2 W from fun W hb => (ownQ_open (OQr.out W hb)).2.1)
  have ODr := Lib.hid (show ∀ W, Below w.heap.size w W → OwnI (.slice Br r.2.length dr) r.2 W from fun W hb => (ownQ_open (OQr.out W hb)).2.2.1)
  have OSr := Lib.hid (show ∀ W, Below w.heap.size w W → OwnS (.agg #[.bool r.1.1, .slice Ar r.1.2.length cr]) r.1 W from fun W hb => OwnS.mk (OUr.out W hb))
  clear hr
  have bb0 : Below w.heap.size w (w.alloc (.cells #[.bool r.1.1, .slice Ar r.1.2.length cr, .slice Br r.2.length dr] 27)) := below_al (Below.refl _ _) _
  have kr := (box_new w #[.bool r.1.1, .slice Ar r.1.2.length cr, .slice Br r.2.length dr] 27)
  go_enter Tryd.func37, Tryd.ntmps37
  have kr_c0 := kr.here.cell 0 _ rfl
  have kr_c1 := kr.here.cell 1 _ rfl
  have kr_c2 := kr.here.cell 2 _ rfl
  go_wp2_with fail
  clear kr_c0 kr_c1 kr_c2
  refine (specRatOk_any _ r _ hz (OQr.out _ bb0)).mono ?_
  rintro e w1 ⟨rfl, b1⟩
  have bb1 := Below.next bb0 b1
  replace kr := kr.below b1
  by_cases ok : okQ r = true
  · rw [ok]
    have HO := Lib.hid ok
    obtain ⟨c, hc⟩ : ∃ c, cmpI (nval r.2) (nval [1]) = c := ⟨_, rfl⟩
    have HC := Lib.hid hc
    have HV := Lib.hid (show wholeB r = (c == 0) by rw [← hc]; exact wholeB_cmp ok)
    clear ok hc
    have o1 := World.ownsRow_lit (base := w1.heap.size) (e := 3) (size := 1) w1 #[.int .i64 1] 1 (Nat.le_refl _) (by unfold maxLen; omega) rfl
    have HO1 := Lib.hid o1
    clear o1
    have kr_c0 := kr.here.cell 0 _ rfl
    have kr_c1 := kr.here.cell 1 _ rfl
    have kr_c2 := kr.here.cell 2 _ rfl
    have kt := box_new (w1) #[.int .i64 1] 3
    have alt := below_al (Below.refl (w1).heap.size (w1)) (.cells #[.int .i64 1] 3)
    have bbt := Below.next bb1 alt
    replace kr := kr.below alt
    go_wp2_with fail
    clear kr_c0 kr_c1 kr_c2
    refine (specCmp_any _ _ r.2 [1] 0 _ _ _ _ (by have := (okQ_parts HO.out).2.2.2.1; omega) (by decide) ⟨(natOk_parts (okQ_parts HO.out).2.1).1, (natOk_parts (okQ_parts HO.out).2.1).2.2⟩ ⟨dig_1, by decide⟩ (ODr.out _ bbt).row (Row.of_own HO1.out)).mono ?_
    rintro e w2 ⟨rfl, q, rfl⟩
    rw [HC.out]
    have bbz := below_drewN bbt q
    clear kr kt
    go_wp2
    go_ret
    exact ⟨ret_bool HV.out.symm, bbz⟩
  · have ok' : okQ r = false := by simpa using ok
    have HV := Lib.hid (show wholeB r = false by unfold wholeB; rw [ok']; rfl)
    rw [ok']
    clear ok ok'
    go_wp2
    go_ret
    exact ⟨ret_bool HV.out.symm, bb1⟩
set_option maxHeartbeats 1000000 in
set_option maxRecDepth 100000 in
theorem specRatHalf_any (vr : Value) (r : QI) (w : World) (hz : szQ r ≤ 1048576) (hr : OwnQ vr r w) :
    Calls Tryd.prog 39 #[vr] w (Postb (halfB r) w) := by
  have Hr := Lib.hid hr
  obtain ⟨Ar, cr, Br, dr, rfl⟩ := ownQ_form hr
  have OQr := Lib.hid (show ∀ W, Below w.heap.size w W → OwnQ (.agg #[.bool r.1.1, .slice Ar r.1.2.length cr, .slice Br r.2.length dr]) r W from fun W hb => OwnQ.below Hr.out hb)
  have OUr := Lib.hid (show ∀ W, Below w.heap.size w W → OwnI (.slice Ar r.1.2.length cr) r.1.2 W from fun W hb => (ownQ_open (OQr.out W hb)).2.1)
  have ODr := Lib.hid (show ∀ W, Below w.heap.size w W → OwnI (.slice Br r.2.length dr) r.2 W from fun W hb => (ownQ_open (OQr.out W hb)).2.2.1)
  have OSr := Lib.hid (show ∀ W, Below w.heap.size w W → OwnS (.agg #[.bool r.1.1, .slice Ar r.1.2.length cr]) r.1 W from fun W hb => OwnS.mk (OUr.out W hb))
  clear hr
  have bb0 : Below w.heap.size w (w.alloc (.cells #[.bool r.1.1, .slice Ar r.1.2.length cr, .slice Br r.2.length dr] 27)) := below_al (Below.refl _ _) _
  have kr := (box_new w #[.bool r.1.1, .slice Ar r.1.2.length cr, .slice Br r.2.length dr] 27)
  go_enter Tryd.func39, Tryd.ntmps39
  have kr_c0 := kr.here.cell 0 _ rfl
  have kr_c1 := kr.here.cell 1 _ rfl
  have kr_c2 := kr.here.cell 2 _ rfl
  go_wp2_with fail
  clear kr_c0 kr_c1 kr_c2
  refine (specRatOk_any _ r _ hz (OQr.out _ bb0)).mono ?_
  rintro e w1 ⟨rfl, b1⟩
  have bb1 := Below.next bb0 b1
  replace kr := kr.below b1
  by_cases ok : okQ r = true
  · rw [ok]
    have HO := Lib.hid ok
    obtain ⟨c, hc⟩ : ∃ c, cmpI (nval r.2) (nval [2]) = c := ⟨_, rfl⟩
    have HC := Lib.hid hc
    have HV := Lib.hid (show halfB r = (c == 0) by rw [← hc]; exact halfB_cmp ok)
    clear ok hc
    have o1 := World.ownsRow_lit (base := w1.heap.size) (e := 3) (size := 1) w1 #[.int .i64 2] 1 (Nat.le_refl _) (by unfold maxLen; omega) rfl
    have HO1 := Lib.hid o1
    clear o1
    have kr_c0 := kr.here.cell 0 _ rfl
    have kr_c1 := kr.here.cell 1 _ rfl
    have kr_c2 := kr.here.cell 2 _ rfl
    have kt := box_new (w1) #[.int .i64 2] 3
    have alt := below_al (Below.refl (w1).heap.size (w1)) (.cells #[.int .i64 2] 3)
    have bbt := Below.next bb1 alt
    replace kr := kr.below alt
    go_wp2_with fail
    clear kr_c0 kr_c1 kr_c2
    refine (specCmp_any _ _ r.2 [2] 0 _ _ _ _ (by have := (okQ_parts HO.out).2.2.2.1; omega) (by decide) ⟨(natOk_parts (okQ_parts HO.out).2.1).1, (natOk_parts (okQ_parts HO.out).2.1).2.2⟩ ⟨dig_2, by decide⟩ (ODr.out _ bbt).row (Row.of_own HO1.out)).mono ?_
    rintro e w2 ⟨rfl, q, rfl⟩
    rw [HC.out]
    have bbz := below_drewN bbt q
    clear kr kt
    go_wp2
    go_ret
    exact ⟨ret_bool HV.out.symm, bbz⟩
  · have ok' : okQ r = false := by simpa using ok
    have HV := Lib.hid (show halfB r = false by unfold halfB; rw [ok']; rfl)
    rw [ok']
    clear ok ok'
    go_wp2
    go_ret
    exact ⟨ret_bool HV.out.symm, bb1⟩
end Go.Proofs.YtclgelopcgahaaaDoor

namespace Go.Proofs.YtclgelopcgahaaaDoor
open Go.RowKit

theorem cmpS_zero {b : SI} (h : okS b = true) : (cmpS b zeroS = 0) ↔ nval b.2 = 0 := by
  have n := nval_ok (okS_parts h).1
  unfold cmpS
  rw [if_pos ⟨h, zeroS_ok⟩, zeroS_val]
  have e : valS b = 0 ↔ nval b.2 = 0 := by
    unfold valS
    split <;> omega
  rw [← e]
  unfold cmpI
  split
  · omega
  · split <;> omega
theorem makeQ_none {a b : SI} (h : ¬ (okS a = true ∧ cmpS b zeroS ≠ 0)) : makeQ a b = (zeroQ, false) := by
  unfold makeQ
  split
  · rename_i hk
    have hz : nval b.2 = 0 := (cmpS_zero hk.2).1 (Classical.byContradiction fun e => h ⟨hk.1, e⟩)
    unfold lowQ
    rw [if_neg (fun k => k.1 (by rw [hz]; rfl))]
  · rfl
theorem cmpS_ok {b : SI} (h : cmpS b zeroS ≠ 0) : okS b = true := by
  unfold cmpS at h
  rcases Classical.em (okS b = true ∧ okS zeroS = true) with k | k
  · exact k.1
  · rw [if_neg k] at h
    exact absurd rfl h
/-- the parts that RatMake divides out -/
theorem makeQ_parts {a b : SI} (ha : okS a = true) (hb : cmpS b zeroS ≠ 0) : ∃ X Y : Nat,
    gcdN a.2 b.2 = limbs (Nat.gcd (nval a.2).toNat (nval b.2).toNat) ∧ (divN a.2 (gcdN a.2 b.2)).1 = limbs X ∧ (divN b.2 (gcdN a.2 b.2)).1 = limbs Y ∧ (limbs X).length ≤ 50 ∧ (limbs Y).length ≤ 50 ∧ 0 < (limbs Y).length ∧
    makeQ a b = if (limbs X).length ≤ 18 ∧ (limbs Y).length ≤ 18 then ((mkS (!(a.1 == b.1)) (limbs X), limbs Y), true) else (zeroQ, false) := by
  have hkb := cmpS_ok hb
  have pa := okS_parts ha
  have pb := okS_parts hkb
  have na := nval_ok pa.1
  have nb := nval_ok pb.1
  have hz : nval b.2 ≠ 0 := fun e => hb ((cmpS_zero hkb).2 e)
  have hg := gcdN_small a.2 b.2
  have eg : gcdN a.2 b.2 = limbs (Nat.gcd (nval a.2).toNat (nval b.2).toNat) := by unfold gcdN; rw [if_pos ⟨pa.1, pb.1⟩]
  have g0 := Nat.gcd_pos_of_pos_right (nval a.2).toNat (show 0 < (nval b.2).toNat by omega)
  have okg : natOkB (gcdN a.2 b.2) = true := by rw [eg] at hg ⊢; exact limbs_okL _ hg
  have lg : 0 < (gcdN a.2 b.2).length := by
    rw [eg]
    rcases Nat.eq_zero_or_pos (limbs (Nat.gcd (nval a.2).toNat (nval b.2).toNat)).length with h | h
    · have := (limbs_zero_iff _).1 h
      omega
    · exact h
  have dv : ∀ c : List Int, natOkB c = true → (divN c (gcdN a.2 b.2)).1 = limbs ((nval c).toNat / Nat.gcd (nval a.2).toNat (nval b.2).toNat) ∧ (limbs ((nval c).toNat / Nat.gcd (nval a.2).toNat (nval b.2).toNat)).length ≤ 50 := by
    intro c hc
    have nc := nval_ok hc
    unfold divN
    rw [if_pos ⟨hc, okg, lg⟩, eg, limbs_val]
    have e : (nval c / ((Nat.gcd (nval a.2).toNat (nval b.2).toNat : Nat) : Int)).toNat = (nval c).toNat / Nat.gcd (nval a.2).toNat (nval b.2).toNat := by
      rw [← div_toNat]
      congr 2
      omega
    simp only
    rw [e]
    refine ⟨rfl, ?_⟩
    have hm := limbs_mono (m := (((nval c).toNat / Nat.gcd (nval a.2).toNat (nval b.2).toNat : Nat) : Int)) (n := nval c) (by omega) (by have := Nat.div_le_self (nval c).toNat (Nat.gcd (nval a.2).toNat (nval b.2).toNat); omega)
    rw [Int.toNat_natCast, ← natOk_limbs hc] at hm
    have := (natOk_parts hc).2.1
    omega
  have hy : 0 < (limbs ((nval b.2).toNat / Nat.gcd (nval a.2).toNat (nval b.2).toNat)).length := by
    have h1 := Nat.div_pos (Nat.le_of_dvd (show 0 < (nval b.2).toNat by omega) (Nat.gcd_dvd_right (nval a.2).toNat (nval b.2).toNat)) g0
    rcases Nat.eq_zero_or_pos (limbs ((nval b.2).toNat / Nat.gcd (nval a.2).toNat (nval b.2).toNat)).length with h | h
    · have := (limbs_zero_iff _).1 h
      omega
    · exact h
  refine ⟨(nval a.2).toNat / Nat.gcd (nval a.2).toNat (nval b.2).toNat, (nval b.2).toNat / Nat.gcd (nval a.2).toNat (nval b.2).toNat, eg, (dv _ pa.1).1, (dv _ pb.1).1, (dv _ pa.1).2, (dv _ pb.1).2, hy, ?_⟩
  unfold makeQ
  rw [if_pos ⟨ha, hkb⟩]
  unfold lowQ
  have h0 : (nval b.2).toNat ≠ 0 := by omega
  have e : (a.1 != b.1) = !(a.1 == b.1) := rfl
  simp only [h0, ne_eq, not_false_eq_true, true_and, e]

theorem mulS_cross {x : SI} {d : List Int} {n : Nat} (hx : okS x = true) (hd : natOkB d = true) (hn : n = (nval d).toNat) : mulS x (false, d) = ofZ (valS x * n) ∧ okS (false, d) = true := by
  have h0 := nval_ok hd
  have hk : okS (false, d) = true := by unfold okS; rw [hd]; rfl
  refine ⟨?_, hk⟩
  unfold mulS
  rw [if_pos ⟨hx, hk⟩]
  have : valS (false, d) = n := by unfold valS; simp; omega
  rw [this]
theorem cross_abs {q : QI} {n : Nat} (h : Parts q) (hn : (n : Int) < bp 18) : ((numQ q * n).natAbs : Int) < bp 36 := by
  rw [h.top]
  have := prod_lt h.nlt hn
  split
  · rw [Int.neg_mul, Int.natAbs_neg, ← Int.natCast_mul]; omega
  · rw [← Int.natCast_mul]; omega
theorem ofZ_short {z : Int} {k : Nat} (h : (z.natAbs : Int) < bp k) (hk : k ≤ 50) : okS (ofZ z) = true ∧ valS (ofZ z) = z ∧ ofZ z = (decide (z < 0), limbs z.natAbs) := by
  have hl := limbs_length_le z.natAbs k h
  refine ⟨ofZ_ok z, ofZ_val (by omega), ?_⟩
  unfold ofZ
  rw [if_pos (by omega)]
/-- what RatMake makes of integers -/
theorem makeQ_ofZ {z : Int} {k m : Nat} {n : Bool} {d : List Int} (h : (z.natAbs : Int) < bp k) (hk : k ≤ 50) (hd : d = limbs m) (_ : (limbs m).length ≤ 50) (hn : okS (n, d) = true) : makeQ (ofZ z) (n, d) = lowQ (decide (z < 0) != n) z.natAbs m := by
  obtain ⟨h1, _, h3⟩ := ofZ_short h hk
  unfold makeQ
  rw [if_pos ⟨h1, hn⟩, h3]
  simp only
  rw [limbs_val, hd, limbs_val, Int.toNat_natCast, Int.toNat_natCast]
theorem nil_ok {d : List Int} (hd : natOkB d = true) : okS (false, d) = true := by unfold okS; rw [hd]; rfl
theorem numQ_val (q : QI) : valS q.1 = numQ q := rfl
def leftS (r s : QI) : SI := mulS r.1 (false, s.2)
def denS (r s : QI) : SI := (false, mulN r.2 s.2)
def topS (r s : QI) : SI := mulS r.1 s.1
theorem leftS_eq {r s : QI} (hr : Parts r) (hs : Parts s) : leftS r s = ofZ (numQ r * denQ s) ∧ okS (leftS r s) = true ∧ valS (leftS r s) = numQ r * denQ s := by
  have h := (mulS_cross hr.okn hs.okd (show denQ s = _ from rfl)).1
  rw [numQ_val] at h
  have hz := ofZ_short (cross_abs hr hs.dlt) (by decide)
  unfold leftS
  rw [h]
  exact ⟨rfl, hz.1, hz.2.1⟩
theorem denS_eq {r s : QI} (hr : Parts r) (hs : Parts s) : denS r s = (false, limbs (denQ r * denQ s)) ∧ okS (denS r s) = true ∧ (limbs (denQ r * denQ s)).length ≤ 50 := by
  have hl := Nat.le_trans (prod_len hr.dlt hs.dlt) (show 36 ≤ 50 by decide)
  have e : mulN r.2 s.2 = limbs (denQ r * denQ s) := by
    unfold mulN natRes capL
    rw [if_pos ⟨hr.okd, hs.okd⟩, mul_toNat hr.okd hs.okd]
    show (if 50 < (limbs (denQ r * denQ s)).length then [] else limbs (denQ r * denQ s)) = _
    rw [if_neg (by omega)]
  unfold denS
  rw [e]
  exact ⟨rfl, nil_ok (limbs_okL _ hl), hl⟩
theorem topS_eq {r s : QI} (hr : Parts r) (hs : Parts s) : topS r s = ofZ (numQ r * numQ s) ∧ ((numQ r * numQ s).natAbs : Int) < bp 36 ∧ (numQ r * numQ s).natAbs = topN r * topN s := by
  have e : (numQ r * numQ s).natAbs = topN r * topN s := by
    rw [Int.natAbs_mul, hr.top, hs.top]
    congr 1 <;> split <;> omega
  unfold topS mulS
  rw [if_pos ⟨hr.okn, hs.okn⟩]
  exact ⟨rfl, by rw [e]; exact prod_lt hr.nlt hs.nlt, e⟩
theorem sum_abs {x y : Int} (hx : (x.natAbs : Int) < bp 36) (hy : (y.natAbs : Int) < bp 36) : ((x + y).natAbs : Int) < bp 37 ∧ ((x - y).natAbs : Int) < bp 37 := by
  have := bp37
  omega
theorem addQ_make {r s : QI} (hr : Parts r) (hs : Parts s) (okr : okQ r = true) (oks : okQ s = true) : makeQ (addS (leftS r s) (leftS s r)) (denS r s) = addQ r s := by
  have l := leftS_eq hr hs
  have m := leftS_eq hs hr
  have d := denS_eq hr hs
  have e : addS (leftS r s) (leftS s r) = ofZ (numQ r * denQ s + numQ s * denQ r) := by
    unfold addS
    rw [if_pos ⟨l.2.1, m.2.1⟩, l.2.2, m.2.2]
  rw [e, d.1, makeQ_ofZ (sum_abs (cross_abs hr hs.dlt) (cross_abs hs hr.dlt)).1 (by decide) rfl d.2.2 (by rw [← d.1]; exact d.2.1)]
  unfold addQ
  rw [if_pos ⟨okr, oks⟩]
  simp
theorem subS_ok (x y : SI) : okS (subS x y) = true := by unfold subS; split; exact ofZ_ok _; exact zeroS_ok
theorem numQ_neg {s : QI} (oks : okQ s = true) : (negQ s).2 = true ∧ okQ (negQ s).1 = true ∧ numQ (negQ s).1 = -(numQ s) ∧ denQ (negQ s).1 = denQ s := by
  have h := parts_of oks
  have e : negQ s = ((negS s.1, s.2), true) := by unfold negQ; rw [if_pos oks]
  rw [e]
  have hv := negS_val h.okn
  have hp := okQ_parts oks
  have habs : nval (negS s.1).2 = nval s.1.2 ∧ (negS s.1).2.length = s.1.2.length := by
    have e2 : (negS s.1).2 = limbs (valS s.1).natAbs := by
      unfold negS
      rw [if_pos h.okn]
      have := ofZ_short (z := -(valS s.1)) (k := 18) (by rw [Int.natAbs_neg, valS_abs _ (okS_parts h.okn).1]; exact h.nlt) (by decide)
      rw [this.2.2, Int.natAbs_neg]
    have e3 : s.1.2 = limbs (valS s.1).natAbs := by
      rw [valS_abs _ (okS_parts h.okn).1]
      exact natOk_limbs (okS_parts h.okn).1
    rw [e2, ← e3]
    exact ⟨rfl, rfl⟩
  refine ⟨rfl, ?_, hv, rfl⟩
  unfold okQ
  rw [negS_ok, h.okd]
  simp only [Bool.true_and, decide_eq_true_eq]
  rw [habs.1, habs.2]
  exact ⟨hp.2.2.1, hp.2.2.2.1, hp.2.2.2.2.1, hp.2.2.2.2.2⟩
theorem subQ_make {r s : QI} (hr : Parts r) (hs : Parts s) (okr : okQ r = true) (oks : okQ s = true) : makeQ (subS (leftS r s) (leftS s r)) (denS r s) = subQ r s := by
  have l := leftS_eq hr hs
  have m := leftS_eq hs hr
  have d := denS_eq hr hs
  have e : subS (leftS r s) (leftS s r) = ofZ (numQ r * denQ s - numQ s * denQ r) := by
    unfold subS
    rw [if_pos ⟨l.2.1, m.2.1⟩, l.2.2, m.2.2]
  have n := numQ_neg oks
  rw [e, d.1, makeQ_ofZ (sum_abs (cross_abs hr hs.dlt) (cross_abs hs hr.dlt)).2 (by decide) rfl d.2.2 (by rw [← d.1]; exact d.2.1)]
  unfold subQ addQ
  rw [if_pos n.1, if_pos ⟨okr, n.2.1⟩, n.2.2.1, n.2.2.2, Int.neg_mul, ← Int.sub_eq_add_neg]
  simp
theorem sign_of {q : QI} (h : Parts q) : q.1.1 = decide (numQ q < 0) := okS_sign h.okn
theorem bne_lt {a b : Bool} : (a != b) = (a != b) := rfl
theorem lowQ_sign {n m : Bool} {a b : Nat} (h : a ≠ 0 → n = m) : lowQ n a b = lowQ m a b := by
  by_cases ha : a = 0
  · subst ha
    unfold lowQ
    have e : ∀ k : Bool, mkS k (limbs (0 / Nat.gcd 0 b)) = zeroS := fun k => by
      rw [Nat.zero_div, mkS_limbs]
      cases k <;> exact ofZ_zero
    rw [e, e]
  · rw [h ha]
theorem mulQ_make {r s : QI} (hr : Parts r) (hs : Parts s) (okr : okQ r = true) (oks : okQ s = true) : makeQ (topS r s) (denS r s) = mulQ r s := by
  have t := topS_eq hr hs
  have d := denS_eq hr hs
  rw [t.1, d.1, makeQ_ofZ t.2.1 (by decide) rfl d.2.2 (by rw [← d.1]; exact d.2.1), t.2.2]
  unfold mulQ
  rw [if_pos ⟨okr, oks⟩]
  refine lowQ_sign fun h => ?_
  have hr0 : topN r ≠ 0 := fun e => h (by rw [e, Nat.zero_mul])
  have hs0 : topN s ≠ 0 := fun e => h (by rw [e, Nat.mul_zero])
  rw [hr.top, hs.top]
  have p : 0 < (topN r : Int) * (topN s : Int) := Int.mul_pos (by omega) (by omega)
  have e : decide ((if r.1.1 = true then -(topN r : Int) else topN r) * (if s.1.1 = true then -(topN s : Int) else topN s) < 0) = (r.1.1 != s.1.1) := by
    cases r.1.1 <;> cases s.1.1 <;> simp [Int.neg_mul, Int.mul_neg] <;> omega
  rw [e]
  cases (r.1.1 != s.1.1) <;> rfl
theorem divQ_make {r s : QI} (hr : Parts r) (hs : Parts s) (okr : okQ r = true) (oks : okQ s = true) : makeQ (leftS r s) (leftS s r) = divQ r s := by
  have l := leftS_eq hr hs
  have m := leftS_eq hs hr
  have h1 := ofZ_short (cross_abs hr hs.dlt) (by decide)
  have h2 := ofZ_short (cross_abs hs hr.dlt) (by decide)
  have a1 : (numQ r * denQ s).natAbs = topN r * denQ s := by rw [Int.natAbs_mul, hr.top, Int.natAbs_natCast]; congr 1; split <;> omega
  have a2 : (numQ s * denQ r).natAbs = denQ r * topN s := by rw [Int.natAbs_mul, hs.top, Int.natAbs_natCast, Nat.mul_comm]; congr 1; split <;> omega
  unfold makeQ divQ
  rw [if_pos ⟨l.2.1, m.2.1⟩, if_pos ⟨okr, oks⟩, l.1, m.1, h1.2.2, h2.2.2]
  simp only
  rw [limbs_val, limbs_val, Int.toNat_natCast, Int.toNat_natCast, a1, a2]
  by_cases hs0 : topN s = 0
  · have e : (denQ r * topN s) = 0 := by rw [hs0, Nat.mul_zero]
    have e2 : denQ r * (nval s.1.2).toNat = 0 := e
    rw [e, e2]
    unfold lowQ
    simp
  · refine lowQ_sign fun h => ?_
    have hr0 : topN r ≠ 0 := fun e => h (by rw [e, Nat.zero_mul])
    have p1 : 0 < (topN r : Int) * (denQ s : Int) := Int.mul_pos (by omega) (by have := hs.pos; omega)
    have p2 : 0 < (topN s : Int) * (denQ r : Int) := Int.mul_pos (by omega) (by have := hr.pos; omega)
    have e1 : decide (numQ r * denQ s < 0) = r.1.1 := by rw [hr.top]; cases r.1.1 <;> simp [Int.neg_mul] <;> omega
    have e2 : decide (numQ s * denQ r < 0) = s.1.1 := by rw [hs.top]; cases s.1.1 <;> simp [Int.neg_mul] <;> omega
    rw [e1, e2]
theorem cmpQ_make {r s : QI} (hr : Parts r) (hs : Parts s) (okr : okQ r = true) (oks : okQ s = true) : cmpS (leftS r s) (leftS s r) = cmpQ r s := by
  have l := leftS_eq hr hs
  have m := leftS_eq hs hr
  unfold cmpS cmpQ
  rw [if_pos ⟨l.2.1, m.2.1⟩, if_pos ⟨okr, oks⟩, l.2.2, m.2.2]
end Go.Proofs.YtclgelopcgahaaaDoor

namespace Go.Proofs
open Go.Shelf
def Tryd.lays134_ren : Go.Shelf.Ren := ⟨fun | 134 => 128 | 129 => 129 | n => n, fun | 53 => 139 | 3 => 3 | 4 => 4 | 46 => 124 | 5 => 5 | 9 => 9 | n => n, fun | n => n⟩
theorem Tryd.lays134 : Go.Proofs.Lays.n134 Tryd.prog Tryd.lays134_ren := {
  mixed := by kernel_rfl
  f129 := Tryd.func129.trans (congrArg some (by kernel_rfl))
  f134 := Tryd.func128.trans (congrArg some (by kernel_rfl))
  t3 := Tryd.underlying3
  a3 := Tryd.isAgg3
  z3 := Tryd.sizeOf3
  v3 := Tryd.zeroValue3
  t4 := Tryd.underlying4
  a4 := Tryd.isAgg4
  z4 := Tryd.sizeOf4
  v4 := Tryd.zeroValue4
  t5 := Tryd.underlying5
  a5 := Tryd.isAgg5
  z5 := Tryd.sizeOf5
  v5 := Tryd.zeroValue5
  t9 := Tryd.underlying9
  a9 := Tryd.isAgg9
  z9 := Tryd.sizeOf9
  v9 := Tryd.zeroValue9
  t46 := Tryd.underlying124
  a46 := Tryd.isAgg124
  z46 := Tryd.sizeOf124
  v46 := Tryd.zeroValue124
  t53 := Tryd.underlying139
  a53 := Tryd.isAgg139
  z53 := Tryd.sizeOf139
  v53 := Tryd.zeroValue139 }
theorem Tryd.bits_LeadingZeros64 (x : Int) (w : World) (h0 : 0 ≤ x) (h1 : x ≤ 18446744073709551615) :
    Calls Tryd.prog 128 #[.int .u64 x] w fun e w' => e = .returned (.int .i64 (64 - (Lib.bitLen x.toNat : Int))) ∧ w' = w := Any.bits_LeadingZeros64 Tryd.lays134 x w h0 h1
def Tryd.lays264_ren : Go.Shelf.Ren := ⟨fun | 264 => 125 | n => n, fun | 53 => 139 | 46 => 124 | n => n, fun | n => n⟩
theorem Tryd.lays264 : Go.Proofs.Lays.n264 Tryd.prog Tryd.lays264_ren := {
  mixed := by kernel_rfl
  f264 := Tryd.func125.trans (congrArg some (by kernel_rfl))
  t46 := Tryd.underlying124
  a46 := Tryd.isAgg124
  z46 := Tryd.sizeOf124
  v46 := Tryd.zeroValue124
  t53 := Tryd.underlying139
  a53 := Tryd.isAgg139
  z53 := Tryd.sizeOf139
  v53 := Tryd.zeroValue139 }
open Go.RowKit Go.Lib in
theorem Tryd.bits_Mul64 (x y : Nat) (hx : x < 18446744073709551616) (hy : y < 18446744073709551616) (w : World) :
    Calls Tryd.prog 125 #[.int .u64 x, .int .u64 y] w fun e w' => e = .returned (.tuple #[.int .u64 ((x * y / 18446744073709551616 : Nat) : Int), .int .u64 ((x * y % 18446744073709551616 : Nat) : Int)]) ∧ w' = w := Any.bits_Mul64 Tryd.lays264 x y hx hy w
end Go.Proofs

namespace Go.Proofs.YtclgelopcgahaaaDoor
open Go.RowKit

/-! ### how many bits -/
theorem lenAux_lt : ∀ (f x : Nat), x < 2 ^ f → x < 2 ^ Lib.bitLenAux f x
  | 0, x, h => h
  | f + 1, x, h => by
    unfold Lib.bitLenAux
    by_cases h0 : x = 0
    · rw [if_pos h0, h0]; decide
    · rw [if_neg h0, Nat.add_comm, Nat.pow_succ]
      have := lenAux_lt f (x / 2) (by rw [Nat.pow_succ] at h; omega)
      omega
theorem lenAux_ge : ∀ (f x : Nat), 0 < x → 2 ^ Lib.bitLenAux f x ≤ 2 * x
  | 0, x, h => by show 1 ≤ _; omega
  | f + 1, x, h => by
    unfold Lib.bitLenAux
    rw [if_neg (by omega), Nat.add_comm, Nat.pow_succ]
    by_cases h1 : x / 2 = 0
    · have e : Lib.bitLenAux f (x / 2) = 0 := by
        cases f with
        | zero => rfl
        | succ f => unfold Lib.bitLenAux; rw [if_pos h1]
      rw [e]
      omega
    · have := lenAux_ge f (x / 2) (by omega)
      omega
theorem lenAux_le : ∀ (f x : Nat), Lib.bitLenAux f x ≤ f
  | 0, _ => Nat.le_refl _
  | f + 1, x => by
    unfold Lib.bitLenAux
    split
    · omega
    · have := lenAux_le f (x / 2)
      omega
/-- shifted so far that the highest bit is set -/
theorem shifted {y : Nat} (h0 : 0 < y) (h : y < 18446744073709551616) : Lib.bitLen y ≤ 64 ∧ 64 - Lib.bitLen y < 64 ∧ 9223372036854775808 ≤ y * 2 ^ (64 - Lib.bitLen y) ∧ y * 2 ^ (64 - Lib.bitLen y) < 18446744073709551616 := by
  have h1 := lenAux_lt 64 y h
  have h2 := lenAux_ge 64 y h0
  have h3 := lenAux_le 64 y
  change y < 2 ^ Lib.bitLen y at h1
  change 2 ^ Lib.bitLen y ≤ 2 * y at h2
  change Lib.bitLen y ≤ 64 at h3
  have h4 : Lib.bitLen y ≠ 0 := by
    intro e
    rw [e] at h1
    omega
  have e : 2 ^ Lib.bitLen y * 2 ^ (64 - Lib.bitLen y) = 18446744073709551616 := by
    rw [← Nat.pow_add, show Lib.bitLen y + (64 - Lib.bitLen y) = 64 by omega]
  have hp : 0 < 2 ^ (64 - Lib.bitLen y) := Nat.pow_pos (by omega)
  refine ⟨h3, by omega, ?_, ?_⟩
  · have := Nat.mul_le_mul_right (2 ^ (64 - Lib.bitLen y)) h2
    rw [e, Nat.mul_assoc] at this
    omega
  · have := (Nat.mul_lt_mul_right hp).2 h1
    rw [e] at this
    exact this

/-! ### one digit -/
/-- the guess q with its rest r, for the digit of (u, n) over (A, B) -/
def DigQ (A B u n q r : Nat) : Prop := q * A + r = u ∧ (u * 4294967296 + n) / (A * 4294967296 + B) ≤ q ∧ q ≤ 4294967297
theorem digQ_mul (A B u q r : Nat) (h : q * A + r = u) : q * (A * 4294967296 + B) + r * 4294967296 = u * 4294967296 + q * B := by
  rw [← h, Nat.mul_add, Nat.add_mul, ← Nat.mul_assoc]
  omega
theorem DigQ.start {A B u n : Nat} (hA : 2147483648 ≤ A) (hB : B < 4294967296) (hn : n < 4294967296) (hu : u < A * 4294967296 + B) : DigQ A B u n (u / A) (u % A) := by
  refine ⟨by rw [Nat.mul_comm]; exact Nat.div_add_mod u A, ?_, ?_⟩
  · apply Nat.le_of_lt_succ
    rw [Nat.div_lt_iff_lt_mul (by omega)]
    have h1 := Nat.div_add_mod u A
    have h2 := Nat.mod_lt u (show 0 < A by omega)
    have h3 : (u / A).succ * (A * 4294967296 + B) = A * (u / A) * 4294967296 + A * 4294967296 + (u / A).succ * B := by
      rw [Nat.mul_add, Nat.succ_mul, ← Nat.mul_assoc, Nat.mul_comm (u / A) A]
    rw [h3]
    omega
  · apply Nat.le_of_lt_succ
    rw [Nat.div_lt_iff_lt_mul (by omega)]
    omega
theorem lt_shift {z r u x n : Nat} (e : z + r = u + x) (h : r + n < x) : u + n < z := by omega
/-- too great a guess -/
theorem DigQ.down {A B u n q r : Nat} (h : DigQ A B u n q r) (hu : u < A * 4294967296 + B) (hn : n < 4294967296) (ht : 4294967296 ≤ q ∨ r * 4294967296 + n < q * B) : 0 < q ∧ DigQ A B u n (q - 1) (r + A) := by
  obtain ⟨h1, h2, h3⟩ := h
  have hq : 0 < q := by
    rcases Nat.eq_zero_or_pos q with h0 | h0
    · subst h0
      rcases ht with ht | ht
      · omega
      · rw [Nat.zero_mul] at ht; omega
    · exact h0
  have e := digQ_mul A B u q r h1
  have hlt : (u * 4294967296 + n) / (A * 4294967296 + B) < q := by
    rw [Nat.div_lt_iff_lt_mul (by omega)]
    rcases ht with ht | ht
    · have h5 := Nat.mul_le_mul_right (A * 4294967296 + B) ht
      generalize q * (A * 4294967296 + B) = z at *
      omega
    · exact lt_shift e ht
  refine ⟨hq, ?_, by omega, by omega⟩
  obtain ⟨p, rfl⟩ : ∃ p, q = p + 1 := ⟨q - 1, by omega⟩
  rw [Nat.add_sub_cancel]
  rw [Nat.succ_mul] at h1
  omega
/-- no longer too great -/
theorem DigQ.done {A B u n q r : Nat} (h : DigQ A B u n q r) (hA : 2147483648 ≤ A) (ht : q * B ≤ r * 4294967296 + n) : q = (u * 4294967296 + n) / (A * 4294967296 + B) := by
  obtain ⟨h1, h2, _⟩ := h
  apply Nat.le_antisymm _ h2
  rw [Nat.le_div_iff_mul_le (by omega)]
  have e := digQ_mul A B u q r h1
  omega
theorem DigQ.past {B n q r : Nat} (hB : B < 4294967296) (hq : q ≤ 4294967296) (hr : 4294967296 ≤ r) : q * B ≤ r * 4294967296 + n := by
  have h1 : q * B ≤ 4294967296 * 4294967295 := Nat.mul_le_mul hq (by omega)
  omega
theorem DigQ.rest {A B u n q r : Nat} (h : DigQ A B u n q r) : r = u - q * A := by have := h.1; omega

/-- two digits, one behind the other -/
theorem two_digits (U m1 m0 Y : Nat) (hY : 0 < Y) :
    ((U * 4294967296 + m1) * 4294967296 + m0) / Y = (U * 4294967296 + m1) / Y * 4294967296 + ((U * 4294967296 + m1) % Y * 4294967296 + m0) / Y := by
  have e := Nat.div_add_mod (U * 4294967296 + m1) Y
  have e2 : (U * 4294967296 + m1) * 4294967296 + m0 = (U * 4294967296 + m1) % Y * 4294967296 + m0 + Y * ((U * 4294967296 + m1) / Y * 4294967296) := by
    have : Y * ((U * 4294967296 + m1) / Y * 4294967296) = Y * ((U * 4294967296 + m1) / Y) * 4294967296 := (Nat.mul_assoc _ _ _).symm
    rw [this]
    generalize Y * ((U * 4294967296 + m1) / Y) = z at *
    omega
  rw [e2, Nat.add_mul_div_left _ _ hY, Nat.add_comm]
theorem digit_lt {U n Y : Nat} (hU : U < Y) (hn : n < 4294967296) : (U * 4294967296 + n) / Y < 4294967296 := by
  rw [Nat.div_lt_iff_lt_mul (by omega)]
  have : 4294967296 * (U + 1) ≤ 4294967296 * Y := Nat.mul_le_mul_left _ hU
  omega
/-- the shifted dividend, in three parts -/
theorem shift_parts {hi lo s Y : Nat} (hs : s < 64) (hl : lo < 18446744073709551616) (y : Nat) (hY : Y = y * 2 ^ s) (hh : hi < y) :
    (hi * 18446744073709551616 + lo) / y = ((hi * 2 ^ s + lo / 2 ^ (64 - s)) * 18446744073709551616 + lo * 2 ^ s % 18446744073709551616) / Y ∧ lo / 2 ^ (64 - s) < 2 ^ s ∧ hi * 2 ^ s + lo / 2 ^ (64 - s) < Y := by
  have hp : 0 < 2 ^ s := Nat.pow_pos (by omega)
  have hp2 : 0 < 2 ^ (64 - s) := Nat.pow_pos (by omega)
  have e64 : 2 ^ s * 2 ^ (64 - s) = 18446744073709551616 := by rw [← Nat.pow_add, show s + (64 - s) = 64 by omega]
  have hlt : lo / 2 ^ (64 - s) < 2 ^ s := by rw [Nat.div_lt_iff_lt_mul hp2, e64]; exact hl
  refine ⟨?_, hlt, ?_⟩
  · have e : (hi * 2 ^ s + lo / 2 ^ (64 - s)) * 18446744073709551616 + lo * 2 ^ s % 18446744073709551616 = (hi * 18446744073709551616 + lo) * 2 ^ s := by
      have e1 : lo * 2 ^ s / 18446744073709551616 = lo / 2 ^ (64 - s) := by
        rw [← e64, Nat.mul_comm (2 ^ s) (2 ^ (64 - s)), Nat.mul_div_mul_right _ _ hp]
      have e2 := Nat.div_add_mod (lo * 2 ^ s) 18446744073709551616
      rw [e1] at e2
      have e3 : (hi * 18446744073709551616 + lo) * 2 ^ s = hi * 2 ^ s * 18446744073709551616 + lo * 2 ^ s := by rw [Nat.add_mul, Nat.mul_right_comm]
      rw [e3]
      omega
    rw [e, hY, Nat.mul_div_mul_right _ _ hp]
  · rw [hY]
    have : (hi + 1) * 2 ^ s ≤ y * 2 ^ s := Nat.mul_le_mul_right _ hh
    rw [Nat.add_mul] at this
    omega
theorem or_add {a b s : Nat} (h : b < 2 ^ s) (ha : a * 2 ^ s < 18446744073709551616) (hb : b < 18446744073709551616) : bits .or .u64 ((a * 2 ^ s : Nat) : Int) (b : Int) = ((a * 2 ^ s + b : Nat) : Int) := by
  rw [bits_or_u64_nat _ _ ha hb]
  congr 1
  rw [Nat.mul_comm, ← Nat.two_pow_add_eq_or_of_lt h]
theorem and_low {a : Nat} (h : a < 18446744073709551616) : bits .and .u64 (a : Int) 4294967295 = ((a % 4294967296 : Nat) : Int) := by
  have h1 := bits_and_u64_nat a 4294967295 h (by omega)
  rw [show a &&& 4294967295 = a % 4294967296 from Nat.and_two_pow_sub_one_eq_mod a 32] at h1
  exact h1
theorem wrapU (a : Nat) : IntKind.u64.wrap (a : Int) = ((a % 18446744073709551616 : Nat) : Int) := by rw [IntKind.wrap_u64]; omega
theorem wrapL (a : Nat) (h : a < 18446744073709551616) : IntKind.u64.wrap (a : Int) = (a : Int) := by rw [IntKind.wrap_u64]; omega
theorem wrapD {a b c : Nat} (hc : c ≤ a) (h : a - c < 18446744073709551616) (hb : b = a - c) : IntKind.u64.wrap (IntKind.u64.wrap (a : Int) - IntKind.u64.wrap (c : Int)) = (b : Int) := by
  rw [IntKind.wrap_u64, IntKind.wrap_u64, IntKind.wrap_u64]
  omega
theorem wrapT {U m z v : Nat} (h : z + v = U * 4294967296 + m) (hv : v < 18446744073709551616) :
    IntKind.u64.wrap (IntKind.u64.wrap (IntKind.u64.wrap ((U : Int) * 4294967296) + (m : Int)) - IntKind.u64.wrap (z : Int)) = (v : Int) := by
  rw [IntKind.wrap_u64, IntKind.wrap_u64, IntKind.wrap_u64, IntKind.wrap_u64]
  omega

/-- the quotient, and whatever rest -/
def QuoPost (q : Nat) (w : World) (e : Ending) (w' : World) : Prop := (∃ r, e = .returned (.tuple #[.int .u64 q, .int .u64 r])) ∧ ∃ n, w.drewN n = w'
set_option maxHeartbeats 400000 in
set_option maxRecDepth 100000 in
theorem div64_small (lo y : Nat) (h0 : 0 < y) (hl : lo < 18446744073709551616) (hy : y < 18446744073709551616) (w : World) :
    Calls Tryd.prog 127 #[.int .u64 0, .int .u64 lo, .int .u64 y] w (QuoPost (lo / y) w) := by
  have hq := Nat.div_le_self lo y
  have e1 : IntKind.u64.wrap ((lo : Int) / (y : Int)) = ((lo / y : Nat) : Int) := by
    rw [← Int.natCast_ediv, wrapL _ (by omega)]
  have hy0 : ¬ ((y : Int) = 0) := by omega
  have hy1 : ¬ (y = 0) := by omega
  go_enter Tryd.func127, Tryd.ntmps127
  go_wp2
  go_quiet (fail)
  go_wp2
  go_ret2
  exact ⟨⟨_, rfl⟩, _, rfl⟩

/-- what stands in the guess's two slots -/
def DigS (A B u n : Nat) (q r : Value) : Prop := ∃ qn rn : Nat, q = .int .u64 qn ∧ r = .int .u64 rn ∧ rn < 4294967296 ∧ Hid (DigQ A B u n qn rn)
set_option maxHeartbeats 2000000 in
set_option maxRecDepth 100000 in
theorem div64_big (hi lo y : Nat) (hh : hi < y) (h0 : 0 < hi) (hl : lo < 18446744073709551616) (hy : y < 18446744073709551616) (w : World) :
    Calls Tryd.prog 127 #[.int .u64 hi, .int .u64 lo, .int .u64 y] w (QuoPost ((hi * 18446744073709551616 + lo) / y) w) := by
  obtain ⟨hb1, hs, hY0, hY1⟩ := shifted (y := y) (by omega) hy
  have hsn : (64 : Int) - (Lib.bitLen y : Int) = ((64 - Lib.bitLen y : Nat) : Int) := by omega
  have HSN := Lib.hid hsn
  clear hsn
  generalize 64 - Lib.bitLen y = s at *
  obtain ⟨hp1, hp2, hp3⟩ := shift_parts hs hl y rfl hh
  have hor : bits .or .u64 ((hi * 2 ^ s : Nat) : Int) ((lo / 2 ^ (64 - s) : Nat) : Int) = ((hi * 2 ^ s + lo / 2 ^ (64 - s) : Nat) : Int) := or_add hp2 (by have := Nat.zero_le (lo / 2 ^ (64 - s)); have := Nat.le_add_right (hi * 2 ^ s) (lo / 2 ^ (64 - s)); exact Nat.lt_of_le_of_lt this (Nat.lt_trans hp3 hY1)) (by have := Nat.div_le_self lo (2 ^ (64 - s)); omega)
  have e1 : IntKind.u64.wrap ((y : Int) * 2 ^ s) = ((y * 2 ^ s : Nat) : Int) := by
    rw [show (y : Int) * 2 ^ s = ((y * 2 ^ s : Nat) : Int) by push_cast; rfl, wrapL _ hY1]
  have e3 : IntKind.u64.wrap ((hi : Int) * 2 ^ s) = ((hi * 2 ^ s : Nat) : Int) := by
    rw [show (hi : Int) * 2 ^ s = ((hi * 2 ^ s : Nat) : Int) by push_cast; rfl, wrapL _ (Nat.lt_of_le_of_lt (Nat.le_add_right (hi * 2 ^ s) (lo / 2 ^ (64 - s))) (Nat.lt_trans hp3 hY1))]
  have e4 : (lo : Int) / 2 ^ (64 - s) = ((lo / 2 ^ (64 - s) : Nat) : Int) := by push_cast; rfl
  have e5 : IntKind.u64.wrap ((lo : Int) * 2 ^ s) = ((lo * 2 ^ s % 18446744073709551616 : Nat) : Int) := by
    rw [show (lo : Int) * 2 ^ s = ((lo * 2 ^ s : Nat) : Int) by push_cast; rfl, wrapU]
  have hm : lo * 2 ^ s % 18446744073709551616 < 18446744073709551616 := Nat.mod_lt _ (by omega)
  rw [← e4] at hor
  have HP := Lib.hid hp1
  clear hp1 hp2 e4
  generalize hi * 2 ^ s + lo / 2 ^ (64 - s) = U at *
  generalize lo * 2 ^ s % 18446744073709551616 = M at *
  generalize y * 2 ^ s = Y at *
  generalize hi * 2 ^ s = H at *
  -- the halves
  have a1 := and_low hY1
  have a2 := and_low hm
  obtain ⟨A, hA⟩ : ∃ A, A = Y / 4294967296 := ⟨_, rfl⟩
  obtain ⟨B, hB⟩ : ∃ B, B = Y % 4294967296 := ⟨_, rfl⟩
  obtain ⟨m1, hm1⟩ : ∃ A, A = M / 4294967296 := ⟨_, rfl⟩
  obtain ⟨m0, hm0⟩ : ∃ A, A = M % 4294967296 := ⟨_, rfl⟩
  have hAB : Y = A * 4294967296 + B := by omega
  have hMM : M = m1 * 4294967296 + m0 := by omega
  have hA0 : 2147483648 ≤ A := by omega
  have hA1 : A < 4294967296 := by omega
  have hB1 : B < 4294967296 := by omega
  have hm11 : m1 < 4294967296 := by omega
  have hm01 : m0 < 4294967296 := by omega
  have a3 : (Y : Int) / 4294967296 = (A : Int) := by omega
  have a4 : (M : Int) / 4294967296 = (m1 : Int) := by omega
  rw [← hB] at a1
  rw [← hm0] at a2
  have HY := Lib.hid hAB
  have HM := Lib.hid hMM
  clear hA hB hm1 hm0 hAB hMM hY0
  have hU64 : U < 18446744073709551616 := by omega
  have hq1 : U / A < 18446744073709551616 := Nat.lt_of_le_of_lt (Nat.div_le_self _ _) hU64
  have hq2 : U % A < 4294967296 := by have := Nat.mod_lt U (show 0 < A by omega); omega
  have e6 : IntKind.u64.wrap ((U : Int) / (A : Int)) = ((U / A : Nat) : Int) := by
    rw [← Int.natCast_ediv, wrapL _ hq1]
  have e7 : IntKind.u64.wrap ((U : Int) - IntKind.u64.wrap (((U / A : Nat) : Int) * (A : Int))) = ((U % A : Nat) : Int) := by
    have h1 := Nat.div_add_mod U A
    rw [show ((U / A : Nat) : Int) * (A : Int) = ((A * (U / A) : Nat) : Int) by push_cast; rw [Int.mul_comm], ← wrapL U hU64]
    exact wrapD (by omega) (by omega) (by omega)
  have HD1 : Hid (DigQ A B U m1 (U / A) (U % A)) := Lib.hid (DigQ.start hA0 hB1 hm11 (by rw [← HY.out]; exact hp3))
  have HUY := Lib.hid hp3
  clear hp3 hq1
  generalize U / A = q1 at *
  generalize U % A = r1 at *
  have hd1 := digit_lt HUY.out hm11
  have HT := Lib.hid (show (hi * 18446744073709551616 + lo) / y = (U * 4294967296 + m1) / Y * 4294967296 + ((U * 4294967296 + m1) % Y * 4294967296 + m0) / Y by
    rw [HP.out, HM.out, show U * 18446744073709551616 + (m1 * 4294967296 + m0) = (U * 4294967296 + m1) * 4294967296 + m0 by omega]
    exact two_digits U m1 m0 Y (by omega))
  have hvY := Nat.mod_lt (U * 4294967296 + m1) (show 0 < Y by omega)
  have f1 : IntKind.u64.wrap (IntKind.u64.wrap (IntKind.u64.wrap ((U : Int) * 4294967296) + (m1 : Int)) - IntKind.u64.wrap ((((U * 4294967296 + m1) / Y : Nat) : Int) * (Y : Int))) = (((U * 4294967296 + m1) % Y : Nat) : Int) := by
    have h1 := Nat.div_add_mod (U * 4294967296 + m1) Y
    rw [show (((U * 4294967296 + m1) / Y : Nat) : Int) * (Y : Int) = ((Y * ((U * 4294967296 + m1) / Y) : Nat) : Int) by rw [Int.mul_comm, ← Int.natCast_mul]]
    exact wrapT h1 (by omega)
  have hvD : (U * 4294967296 + m1) / Y = (U * 4294967296 + m1) / (A * 4294967296 + B) := by rw [← HY.out]
  obtain ⟨D1, hD1⟩ : ∃ D1, D1 = (U * 4294967296 + m1) / Y := ⟨_, rfl⟩
  obtain ⟨V, hV⟩ : ∃ V, V = (U * 4294967296 + m1) % Y := ⟨_, rfl⟩
  rw [← hD1] at hd1 HT f1 hvD
  rw [← hV] at HT hvY f1
  have HV1 := Lib.hid hvD
  clear hvD hD1 hV
  have hA2 : ¬ ((A : Int) = 0) := by omega
  go_enter Tryd.func127, Tryd.ntmps127
  go_wp2_with fail
  refine (Tryd.bits_LeadingZeros64 (y : Int) _ (by omega) (by omega)).mono ?_
  rintro e w1 ⟨rfl, rfl⟩
  rw [Int.toNat_natCast, HSN.out]
  go_upto_block 0 with fail
  go_cut [15] from 67 to 85 (fun q wx => q = .int .u64 (D1 : Int) ∧ wx = w1)
  case first =>
    go_wp2_with fail
    go_loop [15, 16] (DigS A B U m1) (fun q _ => (intOf q).toNat)
    case atStart => exact ⟨q1, r1, rfl, rfl, hq2, HD1⟩
    case round =>
      clear e1 e3 hor a1 a2 a3 a4 e5 e6 e7 hY1 hh h0 hl hs hb1 hm hU64 hq2 f1 hvY hd1
      obtain ⟨q, r, rfl, rfl, hr, HD⟩ := hrel
      have hqm : (q : Int) ≤ 4294967297 := by have := HD.out.2.2; omega
      have hr' : (r : Int) < 4294967296 := by omega
      clear hr
      by_cases hbig : 4294967296 ≤ q
      · have HN := Lib.hid (HD.out.down (by rw [← HY.out]; exact HUY.out) hm11 (.inl hbig))
        have hbig' : (4294967296 : Int) ≤ (q : Int) := by omega
        clear hbig
        have hq0 : (1 : Int) ≤ (q : Int) := by have := HN.out.1; omega
        by_cases hr2 : 4294967296 ≤ r + A
        · have HF : Hid (Value.int IntKind.u64 ((q : Int) - 1) = Value.int IntKind.u64 (D1 : Int)) := Lib.hid (by
            have h1 := HN.out.2.done hA0 (DigQ.past hB1 (by omega) hr2)
            rw [← HV1.out] at h1
            rw [← h1]
            congr 1
            omega)
          obtain ⟨R2, hR2⟩ : ∃ R2 : Nat, (r : Int) + (A : Int) = (R2 : Int) := ⟨r + A, by omega⟩
          have hr3 : (4294967296 : Int) ≤ (R2 : Int) := by omega
          clear hr2
          go_wp2_with fail
          go_meet
          exact ⟨HF.out, rfl⟩
        · have HM2 : Hid (DigS A B U m1 (.int .u64 ((q : Int) - 1)) (.int .u64 ((r + A : Nat) : Int))) := Lib.hid ⟨q - 1, r + A, by congr 1; omega, rfl, by omega, Lib.hid HN.out.2⟩
          obtain ⟨R2, hR2⟩ : ∃ R2 : Nat, (r : Int) + (A : Int) = (R2 : Int) := ⟨r + A, by omega⟩
          have hr3 : decide ((4294967296 : Int) ≤ (R2 : Int)) = false := decide_eq_false (by omega)
          clear hr2
          go_wp2_with fail
          go_round
          case rel => rw [show (r + A : Nat) = R2 by omega] at HM2; exact HM2.out
          case measure => simp [intOf]; omega
      · have hP : q * B ≤ 4294967295 * 4294967295 := Nat.mul_le_mul (by omega) (by omega)
        have e8 : IntKind.u64.wrap ((q : Int) * (B : Int)) = ((q * B : Nat) : Int) := by rw [← Int.natCast_mul, wrapL _ (by omega)]
        have hbig' : (q : Int) < 4294967296 := by omega
        by_cases hgt : r * 4294967296 + m1 < q * B
        · have HN := Lib.hid (HD.out.down (by rw [← HY.out]; exact HUY.out) hm11 (.inr hgt))
          have hgt' : 4294967296 * (r : Int) + (m1 : Int) < ((q * B : Nat) : Int) := by omega
          clear hgt hbig hP
          generalize q * B = P at *
          have hq0 : (1 : Int) ≤ (q : Int) := by have := HN.out.1; omega
          by_cases hr2 : 4294967296 ≤ r + A
          · have HF : Hid (Value.int IntKind.u64 ((q : Int) - 1) = Value.int IntKind.u64 (D1 : Int)) := Lib.hid (by
              have h1 := HN.out.2.done hA0 (DigQ.past hB1 (by omega) hr2)
              rw [← HV1.out] at h1
              rw [← h1]
              congr 1
              omega)
            obtain ⟨R2, hR2⟩ : ∃ R2 : Nat, (r : Int) + (A : Int) = (R2 : Int) := ⟨r + A, by omega⟩
            have hr3 : (4294967296 : Int) ≤ (R2 : Int) := by omega
            clear hr2
            go_wp2_with fail
            go_meet
            exact ⟨HF.out, rfl⟩
          · have HM2 : Hid (DigS A B U m1 (.int .u64 ((q : Int) - 1)) (.int .u64 ((r + A : Nat) : Int))) := Lib.hid ⟨q - 1, r + A, by congr 1; omega, rfl, by omega, Lib.hid HN.out.2⟩
            obtain ⟨R2, hR2⟩ : ∃ R2 : Nat, (r : Int) + (A : Int) = (R2 : Int) := ⟨r + A, by omega⟩
            have hr3 : decide ((4294967296 : Int) ≤ (R2 : Int)) = false := decide_eq_false (by omega)
            clear hr2
            go_wp2_with fail
            go_round
            case rel => rw [show (r + A : Nat) = R2 by omega] at HM2; exact HM2.out
            case measure => simp [intOf]; omega
        · have HF : Hid (q = D1) := Lib.hid (by rw [HV1.out]; exact HD.out.done hA0 (by omega))
          obtain ⟨T, hT⟩ : ∃ T : Nat, 4294967296 * (r : Int) + (m1 : Int) = (T : Int) := ⟨r * 4294967296 + m1, by omega⟩
          have hgt' : decide (T < q * B) = false := decide_eq_false (by omega)
          have hbig2 : decide ((4294967296 : Int) ≤ (q : Int)) = false := decide_eq_false (by omega)
          clear hgt hbig hP hbig'
          generalize q * B = P at *
          go_wp2_with fail
          go_meet
          exact ⟨by rw [← HF.out], rfl⟩
  case rest =>
    obtain ⟨hq, hw⟩ := hcut
    subst hq
    subst hw
    have HVY := Lib.hid hvY
    obtain ⟨D0, hD0⟩ : ∃ D0, D0 = (V * 4294967296 + m0) / Y := ⟨_, rfl⟩
    have hd0 := digit_lt HVY.out hm01
    have hvE : (V * 4294967296 + m0) / Y = (V * 4294967296 + m0) / (A * 4294967296 + B) := by rw [← HY.out]
    rw [← hD0] at hd0 HT hvE
    have HV0 := Lib.hid hvE
    clear hvE hD0
    have hV64 : V < 18446744073709551616 := by omega
    clear e6 e7 hq2 hU64
    have hq1 : V / A < 18446744073709551616 := Nat.lt_of_le_of_lt (Nat.div_le_self _ _) hV64
    have hq3 : V % A < 4294967296 := by have := Nat.mod_lt V (show 0 < A by omega); omega
    have e6 : IntKind.u64.wrap ((V : Int) / (A : Int)) = ((V / A : Nat) : Int) := by
      rw [← Int.natCast_ediv, wrapL _ hq1]
    have e7 : IntKind.u64.wrap ((V : Int) - IntKind.u64.wrap (((V / A : Nat) : Int) * (A : Int))) = ((V % A : Nat) : Int) := by
      have h1 := Nat.div_add_mod V A
      rw [show ((V / A : Nat) : Int) * (A : Int) = ((A * (V / A) : Nat) : Int) by push_cast; rw [Int.mul_comm], ← wrapL V hV64]
      exact wrapD (by omega) (by omega) (by omega)
    have HD2 : Hid (DigQ A B V m0 (V / A) (V % A)) := Lib.hid (DigQ.start hA0 hB1 hm01 (by rw [← HY.out]; exact hvY))
    clear hvY hq1
    generalize V / A = q2 at *
    generalize V % A = r2 at *
    have HTI := Lib.hid (show (((hi * 18446744073709551616 + lo) / y : Nat) : Int) = (D1 : Int) * 4294967296 + (D0 : Int) by rw [HT.out, Int.natCast_add, Int.natCast_mul]; rfl)
    go_upto_block 2 with fail
    go_cut [18] from 102 to 120 (fun q wx => q = .int .u64 (D0 : Int) ∧ wx = wc)
    case first =>
      go_wp2_with fail
      go_loop [18, 16] (DigS A B V m0) (fun q _ => (intOf q).toNat)
      case atStart => exact ⟨q2, r2, rfl, rfl, hq3, HD2⟩
      case round =>
        clear e6 e7 hY1 hh h0 hl hm hq3 hd1 hd0
        obtain ⟨q, r, rfl, rfl, hr, HD⟩ := hrel
        have hqm : (q : Int) ≤ 4294967297 := by have := HD.out.2.2; omega
        have hr' : (r : Int) < 4294967296 := by omega
        clear hr
        by_cases hbig : 4294967296 ≤ q
        · have HN := Lib.hid (HD.out.down (by rw [← HY.out]; exact HVY.out) hm01 (.inl hbig))
          have hbig' : (4294967296 : Int) ≤ (q : Int) := by omega
          clear hbig
          have hq0 : (1 : Int) ≤ (q : Int) := by have := HN.out.1; omega
          by_cases hr2 : 4294967296 ≤ r + A
          · have HF : Hid (Value.int IntKind.u64 ((q : Int) - 1) = Value.int IntKind.u64 (D0 : Int)) := Lib.hid (by
              have h1 := HN.out.2.done hA0 (DigQ.past hB1 (by omega) hr2)
              rw [← HV0.out] at h1
              rw [← h1]
              congr 1
              omega)
            obtain ⟨R2, hR2⟩ : ∃ R2 : Nat, (r : Int) + (A : Int) = (R2 : Int) := ⟨r + A, by omega⟩
            have hr3 : (4294967296 : Int) ≤ (R2 : Int) := by omega
            clear hr2
            go_wp2_with fail
            go_meet
            exact ⟨HF.out, rfl⟩
          · have HM2 : Hid (DigS A B V m0 (.int .u64 ((q : Int) - 1)) (.int .u64 ((r + A : Nat) : Int))) := Lib.hid ⟨q - 1, r + A, by congr 1; omega, rfl, by omega, Lib.hid HN.out.2⟩
            obtain ⟨R2, hR2⟩ : ∃ R2 : Nat, (r : Int) + (A : Int) = (R2 : Int) := ⟨r + A, by omega⟩
            have hr3 : decide ((4294967296 : Int) ≤ (R2 : Int)) = false := decide_eq_false (by omega)
            clear hr2
            go_wp2_with fail
            go_round
            case rel => rw [show (r + A : Nat) = R2 by omega] at HM2; exact HM2.out
            case measure => simp [intOf]; omega
        · have hP : q * B ≤ 4294967295 * 4294967295 := Nat.mul_le_mul (by omega) (by omega)
          have e8 : IntKind.u64.wrap ((q : Int) * (B : Int)) = ((q * B : Nat) : Int) := by rw [← Int.natCast_mul, wrapL _ (by omega)]
          have hbig' : (q : Int) < 4294967296 := by omega
          by_cases hgt : r * 4294967296 + m0 < q * B
          · have HN := Lib.hid (HD.out.down (by rw [← HY.out]; exact HVY.out) hm01 (.inr hgt))
            have hgt' : 4294967296 * (r : Int) + (m0 : Int) < ((q * B : Nat) : Int) := by omega
            clear hgt hbig hP
            generalize q * B = P at *
            have hq0 : (1 : Int) ≤ (q : Int) := by have := HN.out.1; omega
            by_cases hr2 : 4294967296 ≤ r + A
            · have HF : Hid (Value.int IntKind.u64 ((q : Int) - 1) = Value.int IntKind.u64 (D0 : Int)) := Lib.hid (by
                have h1 := HN.out.2.done hA0 (DigQ.past hB1 (by omega) hr2)
                rw [← HV0.out] at h1
                rw [← h1]
                congr 1
                omega)
              obtain ⟨R2, hR2⟩ : ∃ R2 : Nat, (r : Int) + (A : Int) = (R2 : Int) := ⟨r + A, by omega⟩
              have hr3 : (4294967296 : Int) ≤ (R2 : Int) := by omega
              clear hr2
              go_wp2_with fail
              go_meet
              exact ⟨HF.out, rfl⟩
            · have HM2 : Hid (DigS A B V m0 (.int .u64 ((q : Int) - 1)) (.int .u64 ((r + A : Nat) : Int))) := Lib.hid ⟨q - 1, r + A, by congr 1; omega, rfl, by omega, Lib.hid HN.out.2⟩
              obtain ⟨R2, hR2⟩ : ∃ R2 : Nat, (r : Int) + (A : Int) = (R2 : Int) := ⟨r + A, by omega⟩
              have hr3 : decide ((4294967296 : Int) ≤ (R2 : Int)) = false := decide_eq_false (by omega)
              clear hr2
              go_wp2_with fail
              go_round
              case rel => rw [show (r + A : Nat) = R2 by omega] at HM2; exact HM2.out
              case measure => simp [intOf]; omega
          · have HF : Hid (q = D0) := Lib.hid (by rw [HV0.out]; exact HD.out.done hA0 (by omega))
            obtain ⟨T, hT⟩ : ∃ T : Nat, 4294967296 * (r : Int) + (m0 : Int) = (T : Int) := ⟨r * 4294967296 + m0, by omega⟩
            have hgt' : decide (T < q * B) = false := decide_eq_false (by omega)
            have hbig2 : decide ((4294967296 : Int) ≤ (q : Int)) = false := decide_eq_false (by omega)
            clear hgt hbig hP hbig'
            generalize q * B = P at *
            go_wp2_with fail
            go_meet
            exact ⟨by rw [← HF.out], rfl⟩
    case rest =>
      obtain ⟨hq, hw⟩ := hcut
      subst hq
      subst hw
      go_wp2_with fail
      go_ret2
      unfold QuoPost
      rw [HTI.out]
      exact ⟨⟨_, rfl⟩, 0, rfl⟩
theorem div64_any (hi lo y : Nat) (hh : hi < y) (hl : lo < 18446744073709551616) (hy : y < 18446744073709551616) (w : World) :
    Calls Tryd.prog 127 #[.int .u64 hi, .int .u64 lo, .int .u64 y] w (QuoPost ((hi * 18446744073709551616 + lo) / y) w) := by
  rcases Nat.eq_zero_or_pos hi with h0 | h0
  · subst h0
    rw [Nat.zero_mul, Nat.zero_add]
    exact div64_small lo y hh hl hy w
  · exact div64_big hi lo y hh h0 hl hy w

end Go.Proofs.YtclgelopcgahaaaDoor

namespace Go.Proofs.YtclgelopcgahaaaDoor
open Go.RowKit

theorem digB_true {d : Int} (h : digB d = true) : 0 ≤ d ∧ d ≤ 999999999 := of_decide_eq_true h
theorem digB_false {d : Int} (h : digB d = false) : ¬ (0 ≤ d ∧ d ≤ 999999999) := of_decide_eq_false h

set_option maxHeartbeats 400000 in
set_option maxRecDepth 100000 in
theorem implNatOk_same (v : Value) (xs : List Int) (lo hi : Nat) (w : World) (hl : xs.length ≤ 9223372036854775807) (hr : Row w lo hi v (intsV xs)) :
    Calls Tryd.prog 61 #[v] w fun e w' => e = .returned (.bool (natOkB xs)) ∧ w = w' := by
  obtain ⟨A, c, rfl, hA⟩ := hr
  have HA := Lib.hid hA
  rw [intsV_length]
  clear hA
  by_cases h50 : xs.length ≤ 50
  · go_enter Tryd.func61, Tryd.ntmps61
    go_wp2
    go_loop [10] (fun i => ∃ k : Nat, k ≤ xs.length ∧ i = .int .i64 k ∧ Hid ((xs.take k).all digB = true)) (fun i => xs.length - (intOf i).toNat)
    case atStart => exact ⟨0, Nat.zero_le _, rfl, Lib.hid rfl⟩
    case round =>
      obtain ⟨k, hk, rfl, HD⟩ := hrel
      by_cases hlt : k < xs.length
      · obtain ⟨a, rfl, _, _, hca⟩ := HA.out k _ (intsV_at xs k hlt)
        by_cases hd : digB xs[k] = true
        · have HS := Lib.hid (all_succ xs k hlt HD.out hd)
          have hd2 := digB_true hd
          have hd3 := hd2.1
          have hd4 := hd2.2
          clear hd2 hd
          go_wp2
          go_round
          case rel => exact ⟨k + 1, by omega, by go_num, HS⟩
          case measure => simp [intOf]; omega
        · have hd' : digB xs[k] = false := by simpa using hd
          have HN := Lib.hid (not_all xs k hlt hd')
          have hd2 := digB_false hd'
          by_cases hneg : xs[k] < 0
          · go_wp2
            go_ret
            exact ⟨ret_bool HN.out.symm, rfl⟩
          · have hbig : 1000000000 ≤ xs[k] := by omega
            go_wp2
            go_ret
            exact ⟨ret_bool HN.out.symm, rfl⟩
      · have HF := Lib.hid (all_upto xs k HD.out hlt)
        by_cases h0 : xs.length = 0
        · have hz : ((xs.length : Int) == 0) = true := by simp [h0]
          obtain rfl : xs = [] := List.eq_nil_of_length_eq_zero h0
          clear h0
          go_wp2
          go_ret
          exact ⟨rfl, rfl⟩
        · have hz : ((xs.length : Int) == 0) = false := by rw [beq_eq_false_iff_ne]; omega
          have hlt2 : xs.length - 1 < xs.length := by omega
          obtain ⟨a, rfl, _, _, hca⟩ := HA.out (xs.length - 1) _ (intsV_at xs (xs.length - 1) hlt2)
          have HL := Lib.hid (ok_last xs HF.out h50 hlt2)
          clear h0
          go_wp2
          go_ret
          exact ⟨ret_bool HL.out, rfl⟩
  · have HN := Lib.hid (ok_long xs h50)
    go_enter Tryd.func61, Tryd.ntmps61
    go_wp2
    go_ret
    exact ⟨ret_bool HN.out.symm, rfl⟩
theorem implNatOk_any (v : Value) (xs : List Int) (lo hi : Nat) (w : World) (hl : xs.length ≤ 1048576) (_ : hi ≤ w.heap.size) (hr : Row w lo hi v (intsV xs)) :
    Calls Tryd.prog 61 #[v] w fun e w' => e = .returned (.bool (natOkB xs)) ∧ Below w.heap.size w w' := by
  refine (implNatOk_same v xs lo hi w (by omega) hr).mono ?_
  rintro e w' ⟨rfl, rfl⟩
  exact ⟨rfl, Below.refl _ _⟩

set_option maxHeartbeats 400000 in
set_option maxRecDepth 100000 in
theorem implNatOf_any (n : Int) (w : World) (h1 : n ≤ 9223372036854775807) :
    Calls Tryd.prog 24 #[.int .i64 n] w (NewInts (limbs n.toNat) w) := by
  obtain ⟨i0, hi, hz0, hz1, hz2⟩ := info_parts intInfo
  go_enter Tryd.func24, Tryd.ntmps24
  go_wp2
  go_loopw [0, 3] (fun a v wr => ∃ (m : Int) (out : List Int) (f : Nat), m ≤ 9223372036854775807 ∧ out.length + f ≤ 3 ∧ m < 1000000000 ^ f ∧ a = .int .i64 m ∧ Hid (out ++ limbs m.toNat = limbs n.toNat) ∧ wr.ownsRow w.heap.size 3 1 v out.length (intsV out) ∧ Below w.heap.size w wr) (fun a _ _ => (intOf a).toNat)
  case atStart => exact ⟨n, [], 3, h1, by simp, by omega, rfl, Lib.hid rfl, World.ownsRow_nil _ _ _ _, Below.refl _ _⟩
  case round =>
    obtain ⟨m, out, f, hm, hol, hmf, rfl, HE, hown, hb1⟩ := hrel
    by_cases h0 : 0 < m
    · obtain ⟨g, rfl⟩ : ∃ g, f = g + 1 := by
        cases f with
        | zero => simp at hmf; omega
        | succ g => exact ⟨g, rfl⟩
      have hmg : m / 1000000000 < 1000000000 ^ g := by
        rw [Int.pow_succ] at hmf
        exact Int.ediv_lt_of_lt_mul (by omega) hmf
      have HS : Hid (out ++ [m % 1000000000] ++ limbs (m / 1000000000).toNat = limbs n.toNat) := Lib.hid (by
        have e := HE.out
        rw [limbs_pos m.toNat (by omega)] at e
        rw [List.append_assoc, ← e, show ((m.toNat % 1000000000 : Nat) : Int) = m % 1000000000 from by omega, show m.toNat / 1000000000 = (m / 1000000000).toNat from by omega]
        rfl)
      clear hmf
      go_wp2_with (at_builtin; refine wpList_append_own _ rfl (.tmp 8) (.tmp 11) 23 rfl w.heap.size 3 i0 (.int .i64 0) 1 8 Tryd.underlying23 hi hz0 hz1 hz2 rfl (by decide) _ _ _ rfl (own_alloc hown _) ⟨wr.heap.size, 0, none⟩ 1 1 [.int .i64 (m % 1000000000)] rfl rfl (one_new _ _ _) ?c2 ?c3 ?c4 ?c5 ?_)
      case c2 => first | (intro u hu; simp at hu; subst hu; rfl) | rfl
      case c3 => unfold maxLen; omega
      case c4 => omega
      case c5 => have := hb1.size; simp; omega
      intro v1 w1 hown1 hg1 _
      have hb2 := below_push hb1 (Nat.le_refl _) hown hg1
      go_wp2
      exact ⟨⟨m / 1000000000, out ++ [m % 1000000000], g, by omega, by simp; omega, hmg, rfl, HS, by simpa [intsV] using hown1, hb2⟩, by simp [intOf]; omega⟩
    · have HF : Hid (out = limbs n.toNat) := Lib.hid (by have e := HE.out; rwa [show m.toNat = 0 from by omega, limbs_none, List.append_nil] at e)
      go_wp2
      go_ret
      exact ⟨_, rfl, by rw [← HF.out]; exact hown, hb1⟩

/-- a callee that only computes, met inside a region that draws -/
theorem quiet_at {P : Program} {f : FuncId} {args : Array Value} {W : World} {X : Nat → World} {n : Nat} {v : Value} (hX : X n = W)
    (h : Calls P f args W fun e w' => e = .returned v ∧ W = w') : Calls P f args W fun e w'' => e = .returned v ∧ ∃ m, w'' = X m :=
  h.mono fun _ _ ⟨he, hm⟩ => ⟨he, n, hm.symm.trans hX.symm⟩

set_option maxHeartbeats 400000 in
set_option maxRecDepth 100000 in
theorem isNaN_any (x : Int) (w : World) : Calls Tryd.prog 117 #[.int .i64 x] w fun e w' => e = .returned (.bool false) ∧ w = w' := by
  go_enter Tryd.func117, Tryd.ntmps117
  go_wp2
  go_ret
  exact ⟨by simp, rfl⟩
set_option maxHeartbeats 400000 in
set_option maxRecDepth 100000 in
theorem compare_any (x y : Int) (w : World) : Calls Tryd.prog 98 #[.int .i64 x, .int .i64 y] w fun e w' => e = .returned (.int .i64 (cmpI x y)) ∧ w = w' := by
  go_enter Tryd.func98, Tryd.ntmps98
  go_wp2_with (go_at_call 117; refine (isNaN_any _ _).mono ?_; rintro e w' ⟨rfl, rfl⟩)
  all_goals (go_ret; refine ⟨?_, rfl⟩; unfold cmpI; (repeat' split) <;> first | rfl | (exfalso; omega))

set_option maxHeartbeats 1000000 in
set_option maxRecDepth 100000 in
theorem compareLimbs_any (va vb : Value) (a b : List Int) (la ha lb hb : Nat) (w : World) (hal : a.length ≤ 9223372036854775807) (_hbl : b.length ≤ 9223372036854775807) (oa : DigN a ∧ a.getLastD 1 ≠ 0) (ob : DigN b ∧ b.getLastD 1 ≠ 0)
    (hra : Row w la ha va (intsV a)) (hrb : Row w lb hb vb (intsV b)) :
    Calls Tryd.prog 54 #[va, vb] w fun e w' => e = .returned (.int .i64 (cmpI (nval a) (nval b))) ∧ ∃ q, w.drewN q = w' := by
  have OA := Lib.hid oa
  have OB := Lib.hid ob
  obtain ⟨A, c, rfl, hA⟩ := hra
  obtain ⟨B, d, rfl, hB⟩ := hrb
  rw [intsV_length]
  rw [intsV_length]
  have HA := Lib.hid hA
  have HB := Lib.hid hB
  clear hA hB oa ob
  by_cases hlen : a.length = b.length
  · have HL := Lib.hid hlen
    have hbe : ((a.length : Int) != (b.length : Int)) = false := by simp [hlen]
    clear hlen
    go_enter Tryd.func54, Tryd.ntmps54
    go_wp2
    go_loopw [5] (fun i wr => ∃ k q : Nat, k ≤ a.length ∧ i = .int .i64 ((k : Int) - 1) ∧ wr = w.drewN q ∧ Hid (a.drop k = b.drop k)) (fun i _ => (intOf i + 1).toNat)
    case atStart => exact ⟨a.length, 0, Nat.le_refl _, rfl, rfl, Lib.hid (by rw [List.drop_of_length_le (Nat.le_refl _), List.drop_of_length_le (by have := HL.out; omega)])⟩
    case round =>
      obtain ⟨k, q, hk, rfl, rfl, HT⟩ := hrel
      by_cases hz : 0 < k
      · obtain ⟨m, rfl⟩ : ∃ m, k = m + 1 := ⟨k - 1, by omega⟩
        have hlt : m < a.length := by omega
        have hlt2 : m < b.length := by have := HL.out; omega
        obtain ⟨p, rfl, _, _, hca⟩ := HA.out m _ (intsV_at a m hlt)
        obtain ⟨r, rfl, _, _, hcb⟩ := HB.out m _ (intsV_at b m hlt2)
        have hm1 : ((m + 1 : Nat) : Int) - 1 = (m : Int) := by omega
        rw [hm1]
        clear hm1 hz
        by_cases he : a[m] = b[m]
        · have hne : (a[m] != b[m]) = false := by simp [he]
          have HS := Lib.hid (drop_same a b m hlt hlt2 HT.out he)
          clear he
          go_wp2
          go_quiet (fail)
          go_wp2
          go_roundw
          case rel => exact ⟨m, _, by omega, rfl, rfl, HS⟩
          case measure => simp [intOf]
        · have hne : (a[m] != b[m]) = true := by rw [bne_iff_ne]; exact he
          have HV : Hid (cmpI a[m] b[m] = cmpI (nval a) (nval b)) := Lib.hid (by
            by_cases h1 : a[m] < b[m]
            · rw [cmp_lt h1, cmp_lt (nval_lt_down a b OA.out.1 OB.out.1 HL.out m (by rw [nval_drop a m hlt, nval_drop b m hlt2, HT.out]; omega))]
            · rw [cmp_gt (show b[m] < a[m] by omega), cmp_gt (nval_lt_down b a OB.out.1 OA.out.1 HL.out.symm m (by rw [nval_drop a m hlt, nval_drop b m hlt2, HT.out]; omega))])
          clear he
          go_wp2
          go_quiet (fail)
          go_wp2
          go_quiet ((go_at_call 98; exact quiet_at rfl (compare_any _ _ _)))
          go_wp2
          go_ret
          exact ⟨ret_int HV.out, drew_three _ _ _ _⟩
      · obtain rfl : k = 0 := by omega
        go_wp2
        go_ret
        exact ⟨ret_int (cmp_eq (by have := HT.out; rw [List.drop_zero, List.drop_zero] at this; rw [this])).symm, q, rfl⟩
  · have hbe : ((a.length : Int) != (b.length : Int)) = true := by simp; omega
    have HV : Hid (cmpI (a.length : Int) (b.length : Int) = cmpI (nval a) (nval b)) := Lib.hid (by
      by_cases hs : a.length < b.length
      · rw [cmp_lt (by omega), cmp_lt (nval_short a b OA.out.1 OB.out.1 hs OB.out.2)]
      · rw [cmp_gt (by omega), cmp_gt (nval_short b a OB.out.1 OA.out.1 (by omega) OA.out.2)])
    clear hlen
    go_enter Tryd.func54, Tryd.ntmps54
    go_wp2_with (go_at_call 98; refine (compare_any _ _ _).mono ?_; rintro e w' ⟨rfl, rfl⟩)
    go_ret
    exact ⟨ret_int HV.out, 0, rfl⟩

set_option maxHeartbeats 1000000 in
set_option maxRecDepth 100000 in
theorem implNatCmp_drew (va vb : Value) (a b : List Int) (la ha lb hb : Nat) (w : World) (hal : a.length ≤ 9223372036854775807) (hbl : b.length ≤ 9223372036854775807)
    (hra : Row w la ha va (intsV a)) (hrb : Row w lb hb vb (intsV b)) :
    Calls Tryd.prog 85 #[va, vb] w fun e w' => e = .returned (.int .i64 (cmpN a b)) ∧ ∃ q, w.drewN q = w' := by
  by_cases oa : natOkB a = true
  · by_cases ob : natOkB b = true
    · have HC := Lib.hid (show cmpN a b = cmpI (nval a) (nval b) by unfold cmpN; rw [if_pos ⟨oa, ob⟩])
      have OA := Lib.hid (ok_dig oa)
      have OB := Lib.hid (ok_dig ob)
      go_enter Tryd.func85, Tryd.ntmps85
      go_wp2_with fail
      refine (implNatOk_same va a la ha _ hal hra).mono ?_
      rintro e w' ⟨rfl, rfl⟩
      rw [oa]
      go_wp2_with fail
      refine (implNatOk_same vb b lb hb _ hbl hrb).mono ?_
      rintro e w' ⟨rfl, rfl⟩
      rw [ob]
      clear oa ob
      go_wp2_with fail
      refine (compareLimbs_any va vb a b la ha lb hb _ hal hbl OA.out OB.out hra hrb).mono ?_
      rintro e w' ⟨rfl, q, rfl⟩
      go_wp2
      go_ret
      exact ⟨ret_int HC.out.symm, q, rfl⟩
    · have ob' : natOkB b = false := by simpa using ob
      have HC := Lib.hid (show cmpN a b = 0 by unfold cmpN; rw [if_neg (fun h => ob h.2)])
      clear ob
      go_enter Tryd.func85, Tryd.ntmps85
      go_wp2_with fail
      refine (implNatOk_same va a la ha _ hal hra).mono ?_
      rintro e w' ⟨rfl, rfl⟩
      rw [oa]
      go_wp2_with fail
      refine (implNatOk_same vb b lb hb _ hbl hrb).mono ?_
      rintro e w' ⟨rfl, rfl⟩
      rw [ob']
      go_wp2
      go_ret
      exact ⟨ret_int HC.out.symm, 0, rfl⟩
  · have oa' : natOkB a = false := by simpa using oa
    have HC := Lib.hid (show cmpN a b = 0 by unfold cmpN; rw [if_neg (fun h => oa h.1)])
    clear oa
    go_enter Tryd.func85, Tryd.ntmps85
    go_wp2_with fail
    refine (implNatOk_same va a la ha _ hal hra).mono ?_
    rintro e w' ⟨rfl, rfl⟩
    rw [oa']
    go_wp2
    go_ret
    exact ⟨ret_int HC.out.symm, 0, rfl⟩
theorem implNatCmp_any (va vb : Value) (a b : List Int) (la ha lb hb : Nat) (w : World) (hal : a.length ≤ 1048576) (hbl : b.length ≤ 1048576) (_ : ha ≤ w.heap.size) (_ : hb ≤ w.heap.size)
    (hra : Row w la ha va (intsV a)) (hrb : Row w lb hb vb (intsV b)) :
    Calls Tryd.prog 85 #[va, vb] w fun e w' => e = .returned (.int .i64 (cmpN a b)) ∧ Below w.heap.size w w' := by
  refine (implNatCmp_drew va vb a b la ha lb hb w (by omega) (by omega) hra hrb).mono ?_
  rintro e w' ⟨rfl, q, rfl⟩
  exact ⟨rfl, below_drewN (Below.refl _ _) q⟩

theorem max_limbs : limbs (9223372036854775807 : Int).toNat = [854775807, 223372036, 9] := by
  rw [show (9223372036854775807 : Int).toNat = 9223372036854775807 from rfl, limbs_pos _ (by decide), limbs_pos _ (by decide), limbs_pos _ (by decide), limbs, dif_pos (by decide)]
  rfl

end Go.Proofs.YtclgelopcgahaaaDoor

namespace Go.Proofs.YtclgelopcgahaaaDoor
open Go.RowKit

/-- what a nat lies in: the cells behind its limbs, and the type of the block (a nat alone, or the head of an integer) -/
structure NatK where
  rest : List Value
  ty : TypeId
  ne : ty ≠ 3
@[reducible] def natK : NatK := ⟨[], 79, by decide⟩
/-- the pointer at block b leads to a nat of the call's own whose limbs are xs -/
def NatX (K : NatK) (B b : Nat) (xs : List Int) (w : World) : Prop :=
  B ≤ b ∧ ∃ v, w.heap[b]? = some (.cells (v :: K.rest).toArray K.ty (0, 0)) ∧ w.ownsRow B 3 1 v xs.length (intsV xs) ∧ v.ownBlock ≠ some b

abbrev NatAt (B b : Nat) (xs : List Int) (w : World) : Prop := NatX natK B b xs w

theorem NatX.lt {K : NatK} {B b : Nat} {xs : List Int} {w : World} (h : NatX K B b xs w) : b < w.heap.size := by
  obtain ⟨_, v, hb, _⟩ := h
  exact (Array.getElem?_eq_some_iff.1 hb).1
theorem NatX.cell {K : NatK} {v : Value} {b : Nat} {w : World} (hb : w.heap[b]? = some (.cells (v :: K.rest).toArray K.ty (0, 0))) : w.cell? ⟨b, 0, none⟩ = some v := by
  rw [Lib.cell_of_heap hb]; simp
theorem NatX.cell1 {K : NatK} {v u : Value} {b : Nat} {w : World} (hb : w.heap[b]? = some (.cells (v :: K.rest).toArray K.ty (0, 0))) (j : Nat) (hj : K.rest[j]? = some u) : w.cell? ⟨b, j + 1, none⟩ = some u := by
  rw [Lib.cell_of_heap hb]; simpa using hj
/-- new limbs laid into it -/
theorem NatX.put {K : NatK} {B b : Nat} {v v' : Value} {ys : List Int} {w : World} (hB : B ≤ b) (hb : w.heap[b]? = some (.cells (v :: K.rest).toArray K.ty (0, 0))) (hown : w.ownsRow B 3 1 v' ys.length (intsV ys)) :
    NatX K B b ys (w.setCell ⟨b, 0, none⟩ v') := by
  have hne := Lib.ownBlock_ne hown hb K.ne
  refine ⟨hB, v', ?_, ?_, hne⟩
  · simp [World.setCell, Array.getElem?_modify, hb]
  · exact hown.kept (row := some b) ⟨rfl, rfl, rfl, by simp [World.setCell], fun k _ hk => Below.heap_setCell _ _ _ _ (fun e => hk (by simp [e]))⟩ (Or.inr hne)
theorem NatAt.put {B b : Nat} {v v' : Value} {ys : List Int} {w : World} (hB : B ≤ b) (hb : w.heap[b]? = some (.cells #[v] 79 (0, 0))) (hown : w.ownsRow B 3 1 v' ys.length (intsV ys)) :
    NatAt B b ys (w.setCell ⟨b, 0, none⟩ v') := NatX.put (K := natK) hB hb hown
theorem NatX.new {K : NatK} {B : Nat} {v : Value} {xs : List Int} {w : World} (hB : B ≤ w.heap.size) (hown : w.ownsRow B 3 1 v xs.length (intsV xs)) : NatX K B w.heap.size xs (w.alloc (.cells (v :: K.rest).toArray K.ty)) := by
  refine ⟨hB, v, heap_alloc_new w _, own_alloc hown _, fun h => ?_⟩
  have := (own_lt hown h).2
  omega
theorem NatAt.new {B : Nat} {v : Value} {xs : List Int} {w : World} (hB : B ≤ w.heap.size) (hown : w.ownsRow B 3 1 v xs.length (intsV xs)) : NatAt B w.heap.size xs (w.alloc (.cells #[v] 79)) :=
  NatX.new (K := natK) hB hown

set_option maxHeartbeats 1000000 in
set_option maxRecDepth 100000 in
theorem cloneI_any (v : Value) (xs : List Int) (lo hi : Nat) (w : World) (hl : xs.length ≤ 1048576) (hr : Row w lo hi v (intsV xs)) :
    Calls Tryd.prog 48 #[v] w (NewInts xs w) := by
  obtain ⟨i0, hi0, hz0, hz1, hz2⟩ := info_parts intInfo
  obtain ⟨A, c, rfl, hA⟩ := hr
  have q22 : ∀ (w : World) (a : Option Addr) (n c n' c' : Nat), (binOp .eql 23 (.slice a n c) (.slice none n' c')).run Tryd.prog w = .ok (.bool a.isNone) w := fun w a n c n' c' => Lib.run_eql_slice_nil w _ _ a n c n' c' Tryd.underlying23
  cases A with
  | none =>
    obtain rfl : xs = [] := by
      cases xs with
      | nil => rfl
      | cons x r =>
        obtain ⟨a, e, _⟩ := hA 0 _ rfl
        cases e
    clear hA
    go_enter Tryd.func48, Tryd.ntmps48
    go_wp2
    go_ret
    exact ⟨_, rfl, World.ownsRow_nil _ _ _ _, Below.refl _ _⟩
  | some a =>
    have HA := Lib.hid hA
    clear hA
    rw [intsV_length]
    go_enter Tryd.func48, Tryd.ntmps48
    go_wp2_with (at_builtin; refine wpList_append_own _ rfl _ _ 23 rfl w.heap.size 3 i0 (.int .i64 0) 1 8 Tryd.underlying23 hi0 hz0 hz1 hz2 rfl (by decide) _ _ _ rfl (World.ownsRow_made w #[] 0 (Nat.le_refl _) (Nat.zero_le _) rfl) a xs.length c (intsV xs) rfl ?qc1 ?qc2 ?qc3 ?qc4 ?qc5 ?qc6 ?_)
    case qc1 => simp [intsV_length]
    case qc2 =>
      intro j u hj
      obtain ⟨p, e, h1, h2, h3⟩ := HA.out j u hj
      cases e
      exact Lib.cell?_alloc_some _ h3
    case qc3 => intro u hu; obtain ⟨x, _, rfl⟩ := List.mem_map.1 hu; rfl
    case qc4 => unfold maxLen; omega
    case qc5 => omega
    case qc6 => simp
    intro v' w1 hown hgrow hnil
    go_wp2
    go_ret
    exact ⟨v', rfl, by simpa using hown, ((Below.refl _ w).alloc (Nat.le_refl _) _).grown hgrow (by simp) (by intro k hk; simp [Value.ownBlock] at hk; omega)⟩

/-- a new nat that holds xs -/
def NewNat (xs : List Int) (w : World) (e : Ending) (w' : World) : Prop :=
  ∃ b, e = .returned (.pointer (some ⟨b, 0, none⟩)) ∧ NatAt w.heap.size b xs w' ∧ Below w.heap.size w w'

set_option maxHeartbeats 400000 in
set_option maxRecDepth 100000 in
theorem copyNat_any (v : Value) (xs : List Int) (lo hi : Nat) (w : World) (hl : xs.length ≤ 1048576) (hr : Row w lo hi v (intsV xs)) :
    Calls Tryd.prog 62 #[v] w (NewNat xs w) := by
  go_enter Tryd.func62, Tryd.ntmps62
  go_wp2_with fail
  refine (cloneI_any v xs lo hi _ hl hr).mono ?_
  rintro e w1 ⟨v1, rfl, o1, b1⟩
  obtain ⟨A1, c1, rfl⟩ := own_len o1
  go_wp2
  go_ret
  exact ⟨_, rfl, NatAt.new b1.size o1, b1.alloc b1.size _⟩

set_option maxHeartbeats 400000 in
set_option maxRecDepth 100000 in
theorem natResult_any {K : NatK} (B b : Nat) (xs : List Int) (w : World) (hl : xs.length ≤ 1048576) (h : NatX K B b xs w) :
    Calls Tryd.prog 88 #[.pointer (some ⟨b, 0, none⟩)] w (OwnPost B (capL xs) w) := by
  obtain ⟨hB, v, hb, hown, hne⟩ := h
  have hc : w.cell? ⟨b, 0, none⟩ = some v := NatX.cell hb
  obtain ⟨A, c, rfl⟩ := own_len hown
  have HB := Lib.hid hb
  have HO := Lib.hid hown
  clear hb hown hne
  by_cases h50 : 50 < xs.length
  · have HR := Lib.hid (show capL xs = [] by unfold capL; rw [if_pos h50])
    go_enter Tryd.func88, Tryd.ntmps88
    go_wp2
    go_ret
    exact ⟨rfl, _, rfl, by rw [HR.out]; exact World.ownsRow_nil _ _ _ _⟩
  · have HR := Lib.hid (show capL xs = xs by unfold capL; rw [if_neg h50])
    go_enter Tryd.func88, Tryd.ntmps88
    go_wp2
    go_ret
    exact ⟨rfl, _, rfl, by rw [HR.out]; exact HO.out⟩
end Go.Proofs.YtclgelopcgahaaaDoor

namespace Go.Proofs.YtclgelopcgahaaaDoor
open Go.RowKit

/-- what a method leaves: the number, and all below B as it was -/
def LeftX (K : NatK) (B b : Nat) (xs : List Int) (w w' : World) : Prop := NatX K B b xs w' ∧ Below B w w'
abbrev Left (B b : Nat) (xs : List Int) (w w' : World) : Prop := LeftX natK B b xs w w'
theorem zeros_step (xs : List Int) (k : Nat) : xs ++ List.replicate k 0 ++ [(0 : Int)] = xs ++ List.replicate (k + 1) 0 := by
  rw [List.append_assoc, List.replicate_succ']
theorem zeros_pad (xs : List Int) (k p : Nat) (h : xs.length + k ≤ p + 1 ∨ k = 0) (h2 : p < xs.length + k) : xs ++ List.replicate k 0 = padL xs (p + 1) := by
  unfold padL
  rw [show p + 1 - xs.length = k by omega]
theorem intsV_append (xs ys : List Int) : intsV (xs ++ ys) = intsV xs ++ intsV ys := by simp [intsV]

/-- a store into the limbs of a nat -/
theorem NatX.stored {K : NatK} {B b g cap : Nat} {xs : List Int} {w : World} (hB : B ≤ b) (hb : w.heap[b]? = some (.cells (.slice (some ⟨g, 0, none⟩) xs.length cap :: K.rest).toArray K.ty (0, 0)))
    (hown : w.ownsRow B 3 1 (.slice (some ⟨g, 0, none⟩) xs.length cap) xs.length (intsV xs)) (p : Nat) (d : Int) :
    LeftX K B b (xs.set p d) w (w.setCell ⟨g, p, none⟩ (.int .i64 d)) ∧ (w.setCell ⟨g, p, none⟩ (.int .i64 d)).heap[b]? = some (.cells (.slice (some ⟨g, 0, none⟩) xs.length cap :: K.rest).toArray K.ty (0, 0)) ∧
      (w.setCell ⟨g, p, none⟩ (.int .i64 d)).ownsRow B 3 1 (.slice (some ⟨g, 0, none⟩) (xs.set p d).length cap) (xs.set p d).length (intsV (xs.set p d)) := by
  have hne := Lib.ownBlock_ne hown hb K.ne
  have hgb : b ≠ g := fun e => hne (by simp [Value.ownBlock, e])
  obtain ⟨ho, hg⟩ := hown.stored p (.int .i64 d)
  have hlt := own_lt hown (g := g) rfl
  have hbs : B ≤ w.heap.size := by omega
  have hb2 : (w.setCell ⟨g, p, none⟩ (.int .i64 d)).heap[b]? = some (.cells (.slice (some ⟨g, 0, none⟩) xs.length cap :: K.rest).toArray K.ty (0, 0)) := (Below.heap_setCell _ _ _ _ hgb).trans hb
  have hl : (xs.set p d).length = xs.length := List.length_set
  rw [intsV_set] at ho
  refine ⟨⟨⟨hB, _, hb2, by rw [hl]; exact ho, hne⟩, (Below.refl _ _).setCell (p := ⟨g, p, none⟩) hlt.1 _⟩, hb2, by rw [hl]; exact ho⟩

set_option maxHeartbeats 1000000 in
set_option maxRecDepth 100000 in
theorem addAt_any {K : NatK} (B b : Nat) (xs : List Int) (p : Nat) (v : Int) (w : World) (hl : xs.length ≤ 1048576) (hp : p ≤ 1048576) (hv0 : 0 ≤ v) (hv1 : v ≤ 1000000000000000000) (hd : DigN xs) (h : NatX K B b xs w) :
    Calls Tryd.prog 103 #[.pointer (some ⟨b, 0, none⟩), .int .i64 p, .int .i64 v] w fun e w' => e = .returned (.int .i64 (addAtC xs p v)) ∧ LeftX K B b (addAtL xs p v) w w' := by
  obtain ⟨i0, hi0, hz0, hz1, hz2⟩ := info_parts intInfo
  have HD := Lib.hid hd
  clear hd
  go_enter Tryd.func103, Tryd.ntmps103
  go_wp2
  go_loopg [] (p + 1 - xs.length) (fun n wr => ∃ k : Nat, Hid (xs.length + k ≤ p + 1 ∨ k = 0) ∧ Hid (n = p + 1 - (xs.length + k)) ∧ NatX K B b (xs ++ List.replicate k 0) wr ∧ Below B w wr)
  case atStart => exact ⟨0, Lib.hid (Or.inr rfl), Lib.hid (by omega), by simpa using h, Below.refl _ _⟩
  case round =>
    obtain ⟨k, HK, HN, hat, hb1⟩ := hrel
    have hlt := hat.lt
    obtain ⟨hB, u, hbk, hown, hne⟩ := hat
    have hlen : (xs ++ List.replicate k (0 : Int)).length = xs.length + k := by simp
    have hxk : xs.length + k ≤ 1048577 := by rcases HK.out with h | h <;> omega
    rw [hlen] at hown
    by_cases hc : xs.length + k ≤ p
    · obtain ⟨A, c, rfl⟩ := own_len hown
      have c1 : wr.cell? ⟨b, 0, none⟩ = some (.slice A (xs.length + k) c) := NatX.cell hbk
      have HB := Lib.hid hbk
      have HE := Lib.hid hne
      clear hbk hne hlen
      go_wp2_with (at_builtin; refine wpList_append_own _ rfl _ _ 23 rfl B 3 i0 (.int .i64 0) 1 8 Tryd.underlying23 hi0 hz0 hz1 hz2 rfl (by decide) _ _ _ rfl (own_alloc hown _) ⟨wr.heap.size, 0, none⟩ 1 1 [.int .i64 0] rfl rfl (one_new _ _ _) ?c2 ?c3 ?c4 ?c5 ?_)
      case c2 => first | (intro u hu; simp at hu; subst hu; rfl) | rfl
      case c3 => unfold maxLen; omega
      case c4 => omega
      case c5 => simp; omega
      intro v1 w1 hown1 hg1 _
      have hb2 : w1.heap[b]? = some (.cells (.slice A (xs.length + k) c :: K.rest).toArray K.ty (0, 0)) := by
        rw [hg1.block b (by simp; omega) (fun e => HE.out e.symm), Below.heap_alloc _ _ _ hlt]
        exact HB.out
      have d1 : w1.cell? ⟨b, 0, none⟩ = some (.slice A (xs.length + k) c) := NatX.cell hb2
      have f1 : w1.frozen? ⟨b, 0, none⟩ = false := Lib.frozen_of_heap hb2 0
      have hb3 : Below B w w1 := (hb1.alloc (by omega) _).grown hg1 (by simp; omega) (fun k hk => (own_lt hown hk).1)
      obtain ⟨A1, cc1, rfl⟩ := own_len hown1
      have hput := NatX.put (ys := xs ++ List.replicate (k + 1) 0) hB hb2 (by rw [← zeros_step, intsV_append]; simpa [intsV, Nat.add_assoc] using hown1)
      have HB2 := Lib.hid hb2
      clear hb2 c1
      go_wp2
      go_roundg (p + 1 - (xs.length + (k + 1)))
      case measure => have := HN.out; omega
      case rel => exact ⟨k + 1, Lib.hid (by omega), Lib.hid rfl, hput, hb3.setCell (p := ⟨b, 0, none⟩) hB _⟩
    · have HP := Lib.hid (zeros_pad xs k p HK.out (by omega))
      obtain ⟨g, cap, rfl, hg1, hg2, hg3⟩ := own_form hown (by omega)
      have c1 : wr.cell? ⟨b, 0, none⟩ = some (.slice (some ⟨g, 0, none⟩) (xs.length + k) cap) := NatX.cell hbk
      have hpl : p < (padL xs (p + 1)).length := by rw [padL_length]; omega
      have hcell := hown.cellAt p (by omega)
      rw [HP.out, intsV_at _ p hpl, padL_at] at hcell
      have hfr := hown.frozenAt p
      have hdg := getD_dig HD.out p
      have hs : xs.length + k = (padL xs (p + 1)).length := by rw [← HP.out, hlen]
      have HST := Lib.hid (NatX.stored (xs := padL xs (p + 1)) hB (by rw [← hs]; exact hbk) (by rw [← hs, ← HP.out]; exact hown) p ((v + xs.getD p 0) % 1000000000))
      have HC := Lib.hid (show addAtC xs p v = (v + xs.getD p 0) / 1000000000 from rfl)
      have HL := Lib.hid (show addAtL xs p v = (padL xs (p + 1)).set p ((v + xs.getD p 0) % 1000000000) from rfl)
      clear hown hbk hs hlen hne
      generalize xs.getD p 0 = dg at hcell hdg HST HC HL
      have hdg0 := hdg.1
      have hdg1 := hdg.2
      clear hdg
      go_wp2
      go_ret
      exact ⟨ret_int HC.out.symm, by rw [HL.out]; exact ⟨HST.out.1.1, hb1.trans HST.out.1.2⟩⟩

/-! ### a number of the call's own with the blocks on which it leans -/
/-- the nat at block b; T: its block and that of its limbs -/
def NatOnX (K : NatK) (T : List Nat) (b : Nat) (xs : List Int) (w : World) : Prop :=
  ∃ v, w.heap[b]? = some (.cells (v :: K.rest).toArray K.ty (0, 0)) ∧ w.ownsRow 0 3 1 v xs.length (intsV xs) ∧ v.ownBlock ≠ some b ∧ T = b :: v.ownBlock.toList
/-- what a method leaves that keeps the blocks -/
def KeptX (K : NatK) (T : List Nat) (b : Nat) (xs : List Int) (w w' : World) : Prop := NatOnX K T b xs w' ∧ Chg T w w'
abbrev NatOn (T : List Nat) (b : Nat) (xs : List Int) (w : World) : Prop := NatOnX natK T b xs w
abbrev Kept (T : List Nat) (b : Nat) (xs : List Int) (w w' : World) : Prop := KeptX natK T b xs w w'
theorem NatOnX.lt {K : NatK} {T : List Nat} {b : Nat} {xs : List Int} {w : World} (h : NatOnX K T b xs w) : b < w.heap.size := by
  obtain ⟨v, hb, _⟩ := h
  exact (Array.getElem?_eq_some_iff.1 hb).1
theorem NatOnX.mem {K : NatK} {T : List Nat} {b : Nat} {xs : List Int} {w : World} (h : NatOnX K T b xs w) : b ∈ T := by
  obtain ⟨v, _, _, _, rfl⟩ := h
  simp
theorem NatOnX.at_ {K : NatK} {T : List Nat} {b : Nat} {xs : List Int} {w : World} (h : NatOnX K T b xs w) : At T (NatOnX K T b xs) w := by
  have hh := h
  obtain ⟨v, hb, ho, hne, rfl⟩ := h
  refine ⟨hh, fun g hg => ?_, fun w' hk => ⟨v, (hk b (by simp)).trans hb, own_stays ho fun g hg => hk g (by simp [hg]), hne, rfl⟩⟩
  rcases List.mem_cons.1 hg with rfl | hg
  · exact (Array.getElem?_eq_some_iff.1 hb).1
  · exact (own_lt ho (by simpa using hg)).2
theorem NatX.on {K : NatK} {B b : Nat} {xs : List Int} {w : World} (h : NatX K B b xs w) : ∃ T, NatOnX K T b xs w ∧ ∀ g ∈ T, B ≤ g := by
  obtain ⟨hB, v, hb, ho, hne⟩ := h
  refine ⟨_, ⟨v, hb, own_zero ho, hne, rfl⟩, fun g hg => ?_⟩
  rcases List.mem_cons.1 hg with rfl | hg
  · exact hB
  · exact (own_lt ho (by simpa using hg)).1
theorem own_raise {w : World} {base n : Nat} {e : TypeId} {v : Value} {xs : List Value} (h : w.ownsRow 0 e 1 v n xs) (hb : ∀ g, v.ownBlock = some g → base ≤ g) : w.ownsRow base e 1 v n xs := by
  obtain ⟨hl, h | ⟨g, cap, cur, rfl, _, r⟩⟩ := h
  · exact ⟨hl, .inl h⟩
  · exact ⟨hl, .inr ⟨g, cap, cur, rfl, hb g rfl, r⟩⟩
theorem NatOnX.natAt {K : NatK} {T : List Nat} {B b : Nat} {xs : List Int} {w : World} (h : NatOnX K T b xs w) (hT : ∀ g ∈ T, B ≤ g) : NatX K B b xs w := by
  obtain ⟨v, hb, ho, hne, rfl⟩ := h
  exact ⟨hT b (by simp), v, hb, own_raise ho fun g hg => hT g (by simp [hg]), hne⟩
theorem KeptX.left {K : NatK} {T : List Nat} {B b : Nat} {xs : List Int} {w w' : World} (h : KeptX K T b xs w w') (hB : B ≤ w.heap.size) (hT : ∀ g ∈ T, B ≤ g) : LeftX K B b xs w w' :=
  ⟨h.1.natAt hT, below_chg (Below.refl _ _) h.2 hB hT⟩
theorem KeptX.trans {K : NatK} {T : List Nat} {b : Nat} {xs ys : List Int} {w w1 w2 : World} (h : KeptX K T b xs w w1) (k : KeptX K T b ys w1 w2) : KeptX K T b ys w w2 := ⟨k.1, h.2.trans k.2⟩
theorem NatX.size {K : NatK} {B b : Nat} {xs : List Int} {w : World} (h : NatX K B b xs w) : B ≤ w.heap.size := by
  have := h.lt
  have := h.1
  omega
theorem NatOnX.put {K : NatK} {T : List Nat} {b : Nat} {v v' : Value} {ys : List Int} {w : World} (hb : w.heap[b]? = some (.cells (v :: K.rest).toArray K.ty (0, 0))) (hown : w.ownsRow 0 3 1 v' ys.length (intsV ys)) (hT : T = b :: v'.ownBlock.toList) :
    NatOnX K T b ys (w.setCell ⟨b, 0, none⟩ v') := by
  obtain ⟨_, u, h1, h2, h3⟩ := NatX.put (Nat.zero_le b) hb hown
  have e : u = v' := by
    have : (w.setCell ⟨b, 0, none⟩ v').heap[b]? = some (.cells (v' :: K.rest).toArray K.ty (0, 0)) := by simp [World.setCell, Array.getElem?_modify, hb]
    rw [this] at h1
    simpa using h1.symm
  subst e
  exact ⟨_, h1, h2, h3, hT⟩
/-- a store into the limbs -/
theorem NatOnX.stored {K : NatK} {b g cap : Nat} {xs : List Int} {w : World} (hb : w.heap[b]? = some (.cells (.slice (some ⟨g, 0, none⟩) xs.length cap :: K.rest).toArray K.ty (0, 0)))
    (hown : w.ownsRow 0 3 1 (.slice (some ⟨g, 0, none⟩) xs.length cap) xs.length (intsV xs)) (hne : (Value.slice (some ⟨g, 0, none⟩) xs.length cap).ownBlock ≠ some b) (p : Nat) (d : Int) :
    KeptX K [b, g] b (xs.set p d) w (w.setCell ⟨g, p, none⟩ (.int .i64 d)) ∧ (w.setCell ⟨g, p, none⟩ (.int .i64 d)).heap[b]? = some (.cells (.slice (some ⟨g, 0, none⟩) xs.length cap :: K.rest).toArray K.ty (0, 0)) ∧
      (w.setCell ⟨g, p, none⟩ (.int .i64 d)).ownsRow 0 3 1 (.slice (some ⟨g, 0, none⟩) (xs.set p d).length cap) (xs.set p d).length (intsV (xs.set p d)) := by
  have hgb : b ≠ g := fun e => hne (by simp [Value.ownBlock, e])
  obtain ⟨ho, hg⟩ := hown.stored p (.int .i64 d)
  have hb2 : (w.setCell ⟨g, p, none⟩ (.int .i64 d)).heap[b]? = some (.cells (.slice (some ⟨g, 0, none⟩) xs.length cap :: K.rest).toArray K.ty (0, 0)) := (Below.heap_setCell _ _ _ _ hgb).trans hb
  have hl : (xs.set p d).length = xs.length := List.length_set
  rw [intsV_set] at ho
  exact ⟨⟨⟨_, hb2, by rw [hl]; exact ho, hne, rfl⟩, (Chg.refl _ _).setCell (p := ⟨g, p, none⟩) (by simp) _⟩, hb2, by rw [hl]; exact ho⟩

set_option maxHeartbeats 1000000 in
set_option maxRecDepth 100000 in
theorem takeAt_on {K : NatK} (T : List Nat) (b : Nat) (xs : List Int) (p : Nat) (v : Int) (w : World) (hl : xs.length ≤ 1048576) (hp : p < xs.length) (hv0 : 0 ≤ v) (hv1 : v ≤ 1000000000000000000) (hd : DigN xs) (h : NatOnX K T b xs w) :
    Calls Tryd.prog 120 #[.pointer (some ⟨b, 0, none⟩), .int .i64 p, .int .i64 v] w fun e w' => e = .returned (.int .i64 (takeAtC xs p v)) ∧ KeptX K T b (takeAtL xs p v) w w' := by
  have hdg := hd.at_ p hp
  have hg : xs.getD p 0 = xs[p] := by rw [List.getD_eq_getElem?_getD, List.getElem?_eq_getElem hp]; rfl
  have HL := Lib.hid (show takeAtL xs p v = xs.set p ((xs[p] - v) % 1000000000) by rw [← hg]; rfl)
  have HC := Lib.hid (show takeAtC xs p v = -((xs[p] - v) / 1000000000) by rw [← hg]; rfl)
  clear hg hd
  obtain ⟨u, hbk, hown, hne, hT⟩ := h
  obtain ⟨g, cap, rfl, hg1, hg2, hg3⟩ := own_form hown (by omega)
  have hT2 : T = [b, g] := hT
  subst hT2
  have c1 : w.cell? ⟨b, 0, none⟩ = some (.slice (some ⟨g, 0, none⟩) xs.length cap) := NatX.cell hbk
  have hcell := hown.cellAt p (by omega)
  rw [intsV_at _ p hp] at hcell
  have hfr := hown.frozenAt p
  have hgb : ¬ b = g := fun e => hne (by simp [Value.ownBlock, e])
  obtain ⟨hs1, hk1, ho1⟩ := NatOnX.stored hbk hown hne p (xs[p] - v % 1000000000)
  have HS1 := Lib.hid hs1
  have hl1 : (xs.set p (xs[p] - v % 1000000000)).length = xs.length := List.length_set
  have HS2 := Lib.hid (NatOnX.stored (xs := xs.set p (xs[p] - v % 1000000000)) (by rw [hl1]; exact hk1) ho1 (by rw [hl1]; exact hne) p (xs[p] - v % 1000000000 + 1000000000))
  rw [List.set_set] at HS2
  clear hown hbk hne hs1 hk1 ho1 hl1 hT
  generalize xs[p] = dg at hcell hdg HS1 HS2 HC HL
  have hdg0 := hdg.1
  have hdg1 := hdg.2
  clear hdg
  by_cases hc : v % 1000000000 ≤ dg
  · have HC2 := Lib.hid (show takeAtC xs p v = v / 1000000000 by rw [HC.out]; omega)
    have HL2 := Lib.hid (show takeAtL xs p v = xs.set p (dg - v % 1000000000) by rw [HL.out]; congr 1; omega)
    clear HC HL
    go_enter Tryd.func120, Tryd.ntmps120
    go_wp2
    go_ret
    exact ⟨ret_int HC2.out.symm, by rw [HL2.out]; exact HS1.out⟩
  · have HC2 := Lib.hid (show takeAtC xs p v = v / 1000000000 + 1 by rw [HC.out]; omega)
    have HL2 := Lib.hid (show takeAtL xs p v = xs.set p (dg - v % 1000000000 + 1000000000) by rw [HL.out]; congr 1; omega)
    clear HC HL
    go_enter Tryd.func120, Tryd.ntmps120
    go_wp2
    go_ret
    exact ⟨ret_int HC2.out.symm, by rw [HL2.out]; exact HS1.out.trans HS2.out.1⟩

set_option maxHeartbeats 1000000 in
set_option maxRecDepth 100000 in
theorem natTrim_on {K : NatK} (T : List Nat) (b : Nat) (xs : List Int) (w : World) (hl : xs.length ≤ 1048576) (h : NatOnX K T b xs w) :
    Calls Tryd.prog 105 #[.pointer (some ⟨b, 0, none⟩)] w fun e w' => e = .returned (.tuple #[]) ∧ KeptX K T b (trimL xs) w w' := by
  have hTm := h.mem
  have HT0 := Lib.hid hTm
  clear hTm
  obtain ⟨v, hbk, hown, hne, hT⟩ := h
  obtain ⟨A, c, e1, hA⟩ := Row.of_own hown
  rw [intsV_length] at e1
  subst e1
  have c1 : w.cell? ⟨b, 0, none⟩ = some (.slice A xs.length c) := NatX.cell hbk
  have f1 : w.frozen? ⟨b, 0, none⟩ = false := Lib.frozen_of_heap hbk 0
  have hcap : xs.length ≤ c := by
    rcases hown.2 with ⟨h1, h2⟩ | ⟨g, cap, cur, e1, _, _, hn, _⟩
    · omega
    · injection e1 with _ _ e3; omega
  have HA := Lib.hid hA
  have HB := Lib.hid hbk
  have HO := Lib.hid hown
  have HTT : Hid (∀ k, T = b :: (Value.slice A k c).ownBlock.toList) := Lib.hid (by intro k; rw [hT]; cases A <;> rfl)
  clear hA hbk hown hne hT
  go_enter Tryd.func105, Tryd.ntmps105
  go_wp2
  go_loop [2] (fun n => ∃ k : Nat, k ≤ xs.length ∧ n = .int .i64 ((k : Int) - 1) ∧ Hid (∀ j (h : j < xs.length), k ≤ j → xs[j] = 0)) (fun n => (intOf n + 1).toNat)
  case atStart => exact ⟨xs.length, Nat.le_refl _, rfl, Lib.hid (fun j h hj => absurd h (by omega))⟩
  case round =>
    obtain ⟨k, hk, rfl, HZ⟩ := hrel
    by_cases h0 : 0 < k
    · obtain ⟨m, rfl⟩ : ∃ m, k = m + 1 := ⟨k - 1, by omega⟩
      have hlt : m < xs.length := by omega
      obtain ⟨a, rfl, _, _, hca⟩ := HA.out m _ (intsV_at xs m hlt)
      have hm1 : ((m + 1 : Nat) : Int) - 1 = (m : Int) := by omega
      rw [hm1]
      clear hm1 h0
      by_cases hz : xs[m] = 0
      · have hzb : (xs[m] == 0) = true := by rw [beq_iff_eq]; exact hz
        have HN : Hid (∀ j (h : j < xs.length), m ≤ j → xs[j] = 0) := Lib.hid (fun j h hj => by
          by_cases e : j = m
          · subst e; exact hz
          · exact HZ.out j h (by omega))
        clear hz
        go_wp2
        go_round
        case rel => exact ⟨m, by omega, rfl, HN⟩
        case measure => simp [intOf]
      · have hzb : (xs[m] == 0) = false := by rw [beq_eq_false_iff_ne]; exact hz
        have HT := Lib.hid (trim_prefix xs (m + 1) hk HZ.out (fun _ _ => hz))
        have HP := Lib.hid (NatOnX.put (ys := xs.take (m + 1)) (v' := .slice (some a) (m + 1) c) HB.out (by
          rw [← intsV_take, List.length_take, show min (m + 1) xs.length = m + 1 from by omega]
          exact own_take (m + 1) hk HO.out) (HTT.out _))
        clear hz
        go_wp2
        go_end0
        exact ⟨rfl, by rw [HT.out]; exact ⟨HP.out, (Chg.refl _ _).setCell (p := ⟨b, 0, none⟩) HT0.out _⟩⟩
    · obtain rfl : k = 0 := by omega
      have HT := Lib.hid (trim_prefix xs 0 hk HZ.out (fun _ h => absurd h (by omega)))
      have HP := Lib.hid (NatOnX.put (ys := xs.take 0) (v' := .slice A 0 c) HB.out (by
          rw [← intsV_take, List.length_take, Nat.zero_min]
          exact own_take 0 hk HO.out) (HTT.out _))
      go_wp2
      go_end0
      exact ⟨rfl, by rw [HT.out]; exact ⟨HP.out, (Chg.refl _ _).setCell (p := ⟨b, 0, none⟩) HT0.out _⟩⟩
theorem natTrim_any {K : NatK} (B b : Nat) (xs : List Int) (w : World) (hl : xs.length ≤ 1048576) (h : NatX K B b xs w) :
    Calls Tryd.prog 105 #[.pointer (some ⟨b, 0, none⟩)] w fun e w' => e = .returned (.tuple #[]) ∧ LeftX K B b (trimL xs) w w' := by
  obtain ⟨T, hT, hB⟩ := h.on
  refine (natTrim_on T b xs w hl hT).mono ?_
  rintro e w' ⟨rfl, hk⟩
  exact ⟨rfl, hk.left h.size hB⟩
end Go.Proofs.YtclgelopcgahaaaDoor
