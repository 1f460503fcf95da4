/-
  The law FnNat, walked over the contracts of package impl; those of chapter 4 are handed in.
-/
import Derived.Test.YtccajcddijhmcaaDoorFnNatPlain
import Derived.Test.YtccajcddijhmcaaDoorDrawNat
import Derived.Test.YtccajcddijhmcaaDoorNatOps
import Derived.Test.YtccajcddijhmcaaDoorErrIs
import Derived.Test.YtccajcddijhmcaaDoorNatDoorImpl
import Derived.Test.YtccajcddijhmcaaDoorTextNatImpl
namespace Go.Proofs.YtccajcddijhmcaaDoor
open Go.RowKit


theorem len_big {X : Nat} (h : (X : Int) < bp 50) : (limbs X).length ≤ 1048576 := Nat.le_trans (limbs_length_le X 50 h) (by decide)
theorem at_own {v : Value} {xs : List Int} {w : World} {base : Nat} (h : w.ownsRow base 3 1 v xs.length (intsV xs)) : At v.ownBlock.toList (OwnI v xs) w := own_at h
theorem eq_true_of {xs ys : List Int} (h : xs = ys) : decide (xs = ys) = true := decide_eq_true h
theorem mod_gcd_left (X Y : Nat) : X % Nat.gcd X Y = 0 := Nat.mod_eq_zero_of_dvd (Nat.gcd_dvd_left X Y)
theorem mod_gcd_right (X Y : Nat) : Y % Nat.gcd X Y = 0 := Nat.mod_eq_zero_of_dvd (Nat.gcd_dvd_right X Y)

set_option maxHeartbeats 4000000 in
set_option maxRecDepth 100000 in
theorem lawNat_walk (hDiv : ∀ (a : List Int) (b : List Int), a.length ≤ 1048576 → b.length ≤ 1048576 → ∀ (ua : Value) (ub : Value) (W : World), OwnI ua a W → OwnI ub b W → Sen W → Calls Tryd.prog 9 #[ua, ub] W (PostII (divN a b).1 (divN a b).2 W))
    (hCut : ∀ (a : List Int) (k : Int), a.length ≤ 1048576 → ∀ (ua : Value) (W : World), OwnI ua a W → Sen W → Calls Tryd.prog 11 #[ua, (.int .i64 k)] W (PostII (cutN a k).1 (cutN a k).2 W))
    (hGcd : ∀ (a : List Int) (b : List Int), a.length ≤ 1048576 → b.length ≤ 1048576 → ∀ (ua : Value) (ub : Value) (W : World), OwnI ua a W → OwnI ub b W → Sen W → Calls Tryd.prog 14 #[ua, ub] W (PostI (gcdN a b) W))
    (hScale : ∀ (a : List Int) (k : Int), a.length ≤ 1048576 → ∀ (ua : Value) (W : World), OwnI ua a W → Calls Tryd.prog 19 #[ua, (.int .i64 k)] W (PostI (scaleN a k) W))
    (hTen : ∀ (k : Int), ∀ (W : World), Calls Tryd.prog 20 #[(.int .i64 k)] W (PostI (tenN k) W))
    (hZeros : ∀ (a : List Int), a.length ≤ 1048576 → ∀ (ua : Value) (W : World), OwnI ua a W → Calls Tryd.prog 22 #[ua] W (Postn (zerosN a) W))
    (v : Value) (bs : List Nat) (w : World) (hb : ∀ b ∈ bs, b < 256) (hn : bs.length ≤ 1048576) (hr : Row w 0 w.heap.size v (bytesV bs)) (ht : Tab w) (hsn : Sen w) :
    Calls Tryd.prog 3 #[v] w fun e w' => e = .returned (.bool true) ∧ Below w.heap.size w w' := by
  have HB := Lib.hid hb
  have HDiv := Lib.hid hDiv
  have HCut := Lib.hid hCut
  have HGcd := Lib.hid hGcd
  have HScale := Lib.hid hScale
  have HTen := Lib.hid hTen
  have HZeros := Lib.hid hZeros
  clear hb hDiv hCut hGcd hScale hTen hZeros
  have hr0 := hr
  obtain ⟨A0, c0, rfl, _⟩ := hr
  have hlen : (bytesV bs).length = bs.length := by simp [bytesV]
  rw [hlen] at hr0 ⊢
  clear hlen
  go_enter Tryd.func3, Tryd.ntmps3
  go_wp2_with fail
  refine (makeNats_any _ bs _ HB.out hn hr0).mono ?_
  rintro e w1 ⟨va, vb, a, b, rfl, oka, okb, hla, hlb, oa0, ob0, bb1⟩
  obtain ⟨X, rfl, hX5⟩ := drawn_nat oka hla
  obtain ⟨Y, rfl, hY5⟩ := drawn_nat okb hlb
  have oa := at_own oa0
  have ob := at_own ob0
  have hX : (X : Int) < bp 50 := Int.lt_of_lt_of_le hX5 bp_five_fifty
  have hY : (Y : Int) < bp 50 := Int.lt_of_lt_of_le hY5 bp_five_fifty
  have hp := small_prod hX5 hY5
  have hXY := hp.1
  have hXS := hp.2
  have hYX : ((Y * X : Nat) : Int) < bp 50 := by rw [Nat.mul_comm]; exact hXY
  clear oka okb oa0 ob0 hp hla hlb
  have HX := Lib.hid hX
  have HY := Lib.hid hY
  have HX5 := Lib.hid hX5
  have HY5 := Lib.hid hY5
  have HXY := Lib.hid hXY
  have HYX := Lib.hid hYX
  have HXS := Lib.hid hXS
  clear hX hY hX5 hY5 hXY hYX hXS
  go_wp2_with fail
  refine ((implNatAdd_any va vb (limbs X) (limbs Y) _ _ _ _ _ (len_big HX.out) (len_big HY.out) (Nat.le_refl _) (Nat.le_refl _) oa.here.row ob.here.row)).mono ?_
  rintro e w2 ⟨vs, rfl, os0, b2⟩
  have bb2 := Below.next bb1 b2
  replace oa := oa.below b2
  replace ob := ob.below b2
  have os := at_own os0
  clear os0
  rw [addN_limbs HX.out HY.out HXS.out] at os
  go_wp2_with fail
  refine (HDiv.out (limbs X) (limbs Y) (len_big HX.out) (len_big HY.out) va vb _ oa.here ob.here (hsn.below bb2)).mono ?_
  rintro e w3 ⟨vq, Sq, vr_, Sr, rfl, oq, or_, _, _, _, b3⟩
  have bb3 := Below.next bb2 b3
  replace oa := oa.below b3
  replace ob := ob.below b3
  replace os := os.below b3
  go_wp2_with fail
  refine (makeNum_any 30 _ bs _ (by omega) (by omega) HB.out hn (hr0.below bb3 (Nat.le_refl _) |>.wide (Nat.le_refl _) bb3.size)).mono ?_
  rintro e w4 ⟨kz, hk0, hk1, rfl, b4⟩
  have bb4 := Below.next bb3 b4
  replace oa := oa.below b4
  replace ob := ob.below b4
  replace os := os.below b4
  replace oq := oq.below b4
  replace or_ := or_.below b4
  obtain ⟨k, rfl⟩ := Int.eq_ofNat_of_zero_le hk0
  have hk29 : k ≤ 29 := by omega
  clear hk0 hk1
  have HKX := Lib.hid (small_mul HX5.out hk29)
  have HKY := Lib.hid (small_mul HY5.out hk29)
  go_wp2_with fail
  refine (HCut.out (limbs X) k (len_big HX.out) va _ oa.here (hsn.below bb4)).mono ?_
  rintro e w5 ⟨vc, Sc, vd, Sd, rfl, oc, od, _, _, _, b5⟩
  have bb5 := Below.next bb4 b5
  replace oa := oa.below b5
  replace ob := ob.below b5
  replace os := os.below b5
  replace oq := oq.below b5
  replace or_ := or_.below b5
  rw [cutN_nat k (by omega) HX.out HKX.out.2] at oc od
  have hcX : ((X / 10 ^ k : Nat) : Int) < bp 50 := by have := HX.out; have := Nat.div_le_self X (10 ^ k); omega
  have hdX : ((X % 10 ^ k : Nat) : Int) < bp 50 := by have := HX.out; have := Nat.mod_le X (10 ^ k); omega
  have HCX := Lib.hid hcX
  have HDX := Lib.hid hdX
  clear hcX hdX
  go_wp2_with fail
  refine (implNatText_any va (limbs X) _ _ _ (len_big HX.out) (Nat.le_refl _) oa.here.row (ht.below bb5)).mono ?_
  rintro e w6 ⟨rfl, b6⟩
  have bb6 := Below.next bb5 b6
  replace oa := oa.below b6
  replace ob := ob.below b6
  replace os := os.below b6
  replace oq := oq.below b6
  replace or_ := or_.below b6
  replace oc := oc.below b6
  replace od := od.below b6
  have HTB := Lib.hid (text_back HX5.out)
  have HTS := Lib.hid (natTextB_size (limbs X))
  go_wp2_with fail
  refine (implTextNat_any (natTextB (limbs X)) _ (by have := HTS.out; omega) (ht.below bb6)).mono ?_
  rintro e w7 ⟨vt, rfl, ot0, b7⟩
  have bb7 := Below.next bb6 b7
  replace oa := oa.below b7
  replace ob := ob.below b7
  replace os := os.below b7
  replace oq := oq.below b7
  replace or_ := or_.below b7
  replace oc := oc.below b7
  replace od := od.below b7
  rw [HTB.out.1]
  rw [HTB.out.2] at ot0
  have ot := at_own ot0
  clear ot0
  go_wp2_with fail
  refine (HGcd.out (limbs X) (limbs Y) (len_big HX.out) (len_big HY.out) va vb _ oa.here ob.here (hsn.below bb7)).mono ?_
  rintro e w8 ⟨vg, Sg, rfl, og, _, b8⟩
  have bb8 := Below.next bb7 b8
  replace oa := oa.below b8
  replace ob := ob.below b8
  replace os := os.below b8
  replace oq := oq.below b8
  replace or_ := or_.below b8
  replace oc := oc.below b8
  replace od := od.below b8
  replace ot := ot.below b8
  rw [gcdN_limbs HX.out HY.out] at og
  go_wp2_with fail
  refine ((implNatSub_any vs vb (limbs (X + Y)) (limbs Y) _ _ _ _ _ (len_big HXS.out) (len_big HY.out) (Nat.le_refl _) (Nat.le_refl _) os.here.row ob.here.row)).mono ?_
  rintro e w9 ⟨vm, rfl, om0, b9⟩
  have bb9 := Below.next bb8 b9
  replace oa := oa.below b9
  replace ob := ob.below b9
  replace os := os.below b9
  replace oq := oq.below b9
  replace or_ := or_.below b9
  replace oc := oc.below b9
  replace od := od.below b9
  replace ot := ot.below b9
  replace og := og.below b9
  have om := at_own om0
  clear om0
  rw [subN_limbs HXS.out (Nat.le_add_left _ _)] at om
  go_wp2_with fail
  refine (same_any vm va (limbs (X + Y - Y)) (limbs X) _ _ _ _ _ (by have := om.lt; exact Nat.le_trans (len_big (by rw [Nat.add_sub_cancel]; exact HX.out)) (by decide)) om.here.row oa.here.row).mono ?_
  rintro e w10 ⟨rfl, b10⟩
  have bb10 := Below.next bb9 b10
  replace oa := oa.below b10
  replace ob := ob.below b10
  replace os := os.below b10
  replace oq := oq.below b10
  replace or_ := or_.below b10
  replace oc := oc.below b10
  replace od := od.below b10
  replace ot := ot.below b10
  replace og := og.below b10
  replace om := om.below b10
  rw [eq_true_of (by rw [Nat.add_sub_cancel])]
  clear om
  go_wp2_with fail
  refine ((implNatMul_any va vb (limbs X) (limbs Y) _ _ _ _ _ (len_big HX.out) (len_big HY.out) (Nat.le_refl _) (Nat.le_refl _) oa.here.row ob.here.row)).mono ?_
  rintro e w11 ⟨vm, rfl, om0, b11⟩
  have bb11 := Below.next bb10 b11
  replace oa := oa.below b11
  replace ob := ob.below b11
  replace os := os.below b11
  replace oq := oq.below b11
  replace or_ := or_.below b11
  replace oc := oc.below b11
  replace od := od.below b11
  replace ot := ot.below b11
  replace og := og.below b11
  have om := at_own om0
  clear om0
  rw [mulN_limbs HX.out HY.out HXY.out] at om
  go_wp2_with fail
  refine ((implNatMul_any vb va (limbs Y) (limbs X) _ _ _ _ _ (len_big HY.out) (len_big HX.out) (Nat.le_refl _) (Nat.le_refl _) ob.here.row oa.here.row)).mono ?_
  rintro e w12 ⟨vn, rfl, on0, b12⟩
  have bb12 := Below.next bb11 b12
  replace oa := oa.below b12
  replace ob := ob.below b12
  replace os := os.below b12
  replace oq := oq.below b12
  replace or_ := or_.below b12
  replace oc := oc.below b12
  replace od := od.below b12
  replace ot := ot.below b12
  replace og := og.below b12
  replace om := om.below b12
  have on := at_own on0
  clear on0
  rw [mulN_limbs HY.out HX.out HYX.out] at on
  go_wp2_with fail
  refine (same_any vm vn (limbs (X * Y)) (limbs (Y * X)) _ _ _ _ _ (by have := om.lt; exact Nat.le_trans (len_big HXY.out) (by decide)) om.here.row on.here.row).mono ?_
  rintro e w13 ⟨rfl, b13⟩
  have bb13 := Below.next bb12 b13
  replace oa := oa.below b13
  replace ob := ob.below b13
  replace os := os.below b13
  replace oq := oq.below b13
  replace or_ := or_.below b13
  replace oc := oc.below b13
  replace od := od.below b13
  replace ot := ot.below b13
  replace og := og.below b13
  replace om := om.below b13
  replace on := on.below b13
  rw [eq_true_of (by rw [Nat.mul_comm])]
  clear om
  clear on
  go_wp2_with fail
  refine (same_any vt va (limbs X) (limbs X) _ _ _ _ _ (by have := ot.lt; exact Nat.le_trans (len_big HX.out) (by decide)) ot.here.row oa.here.row).mono ?_
  rintro e w14 ⟨rfl, b14⟩
  have bb14 := Below.next bb13 b14
  replace oa := oa.below b14
  replace ob := ob.below b14
  replace os := os.below b14
  replace oq := oq.below b14
  replace or_ := or_.below b14
  replace oc := oc.below b14
  replace od := od.below b14
  replace ot := ot.below b14
  replace og := og.below b14
  rw [eq_true_of (rfl)]
  clear ot
  go_wp2_with fail
  refine (implNatCmp_any vs va (limbs (X + Y)) (limbs X) _ _ _ _ _ (len_big HXS.out) (len_big HX.out) (Nat.le_refl _) (Nat.le_refl _) os.here.row oa.here.row).mono ?_
  rintro e w15 ⟨rfl, b15⟩
  have bb15 := Below.next bb14 b15
  replace oa := oa.below b15
  replace ob := ob.below b15
  replace os := os.below b15
  replace oq := oq.below b15
  replace or_ := or_.below b15
  replace oc := oc.below b15
  replace od := od.below b15
  replace og := og.below b15
  rw [cmpN_limbs HXS.out HX.out]
  have hcs : 0 ≤ cmpI ((X + Y : Nat) : Int) (X : Int) := by unfold cmpI; rw [if_neg (by omega)]; split <;> omega
  generalize cmpI ((X + Y : Nat) : Int) (X : Int) = cz at hcs ⊢
  have hcb : decide (cz < 0) = false := decide_eq_false (by omega)
  clear hcs
  clear os
  go_wp2_with fail
  refine (HScale.out (limbs (X / 10 ^ k)) k (len_big HCX.out) vc _ oc.here).mono ?_
  rintro e w16 ⟨vm, Sm, rfl, om, _, b16⟩
  have bb16 := Below.next bb15 b16
  replace oa := oa.below b16
  replace ob := ob.below b16
  replace oq := oq.below b16
  replace or_ := or_.below b16
  replace oc := oc.below b16
  replace od := od.below b16
  replace og := og.below b16
  clear hcb
  have hmX : ((X / 10 ^ k * 10 ^ k : Nat) : Int) < bp 50 := by have := HX.out; have := Nat.div_mul_le_self X (10 ^ k); omega
  have HMX := Lib.hid hmX
  clear hmX
  rw [scaleN_nat k (by omega) HCX.out HKX.out.2 HMX.out] at om
  have HSX := Lib.hid (show X / 10 ^ k * 10 ^ k + X % 10 ^ k = X by rw [Nat.mul_comm]; exact Nat.div_add_mod X (10 ^ k))
  go_wp2_with fail
  refine ((implNatAdd_any vm vd (limbs (X / 10 ^ k * 10 ^ k)) (limbs (X % 10 ^ k)) _ _ _ _ _ (len_big HMX.out) (len_big HDX.out) (Nat.le_refl _) (Nat.le_refl _) om.here.row od.here.row)).mono ?_
  rintro e w17 ⟨vn, rfl, on0, b17⟩
  have bb17 := Below.next bb16 b17
  replace oa := oa.below b17
  replace ob := ob.below b17
  replace oq := oq.below b17
  replace or_ := or_.below b17
  replace oc := oc.below b17
  replace od := od.below b17
  replace og := og.below b17
  replace om := om.below b17
  have on := at_own on0
  clear on0
  rw [addN_limbs HMX.out HDX.out (by rw [HSX.out]; exact HX.out), HSX.out] at on
  go_wp2_with fail
  refine (same_any vn va (limbs X) (limbs X) _ _ _ _ _ (by have := on.lt; exact Nat.le_trans (len_big HX.out) (by decide)) on.here.row oa.here.row).mono ?_
  rintro e w18 ⟨rfl, b18⟩
  have bb18 := Below.next bb17 b18
  replace oa := oa.below b18
  replace ob := ob.below b18
  replace oq := oq.below b18
  replace or_ := or_.below b18
  replace oc := oc.below b18
  replace od := od.below b18
  replace og := og.below b18
  replace om := om.below b18
  replace on := on.below b18
  rw [eq_true_of (rfl)]
  clear om
  clear on
  go_wp2_with fail
  refine (HTen.out k _).mono ?_
  rintro e w19 ⟨vm, Sm, rfl, om, _, b19⟩
  have bb19 := Below.next bb18 b19
  replace oa := oa.below b19
  replace ob := ob.below b19
  replace oq := oq.below b19
  replace or_ := or_.below b19
  replace oc := oc.below b19
  replace od := od.below b19
  replace og := og.below b19
  rw [tenN_nat k (by omega)] at om
  go_wp2_with fail
  refine (implNatCmp_any vd vm (limbs (X % 10 ^ k)) (limbs (10 ^ k)) _ _ _ _ _ (len_big HDX.out) (len_big HKX.out.2) (Nat.le_refl _) (Nat.le_refl _) od.here.row om.here.row).mono ?_
  rintro e w20 ⟨rfl, b20⟩
  have bb20 := Below.next bb19 b20
  replace oa := oa.below b20
  replace ob := ob.below b20
  replace oq := oq.below b20
  replace or_ := or_.below b20
  replace oc := oc.below b20
  replace od := od.below b20
  replace og := og.below b20
  replace om := om.below b20
  rw [cmpN_limbs HDX.out HKX.out.2, cmp_lt (show ((X % 10 ^ k : Nat) : Int) < ((10 ^ k : Nat) : Int) by have := Nat.mod_lt X (show 0 < 10 ^ k from Nat.pow_pos (by omega)); omega)]
  clear om
  clear oc
  clear od
  have oa1 := oa
  obtain ⟨Aa, ca, rfl⟩ := own_len oa1.here
  clear oa1
  have ob1 := ob
  obtain ⟨Ab, cb, rfl⟩ := own_len ob1.here
  clear ob1
  by_cases hX0 : X = 0
  · have hl0 : (limbs X).length = 0 := by rw [hX0, limbs_none]; rfl
    have HL0 := Lib.hid hl0
    have hlx : ¬ 0 < (limbs X).length := by omega
    clear hX0 hl0
    by_cases hY0 : Y = 0
    · have HDQ : Hid ((divN (limbs X) (limbs Y)).1 = []) := Lib.hid (by rw [hY0, limbs_none, divN_zero])
      have HGX : Hid (limbs (Nat.gcd X Y) = limbs X) := Lib.hid (by rw [hY0, Nat.gcd_zero_right])
      have hzb : (((limbs Y).length : Int) == 0) = true := by rw [hY0, limbs_none]; rfl
      rw [HDQ.out] at oq
      rw [HGX.out] at og
      obtain ⟨Aq, cq, e1⟩ := own_len oq.here
      have e2 : vq = .slice Aq 0 cq := e1
      subst e2
      clear hY0 e1
      go_wp2_with fail
      refine (same_any _ _ (limbs X) (limbs X) _ _ _ _ _ (Nat.le_trans (len_big HX.out) (by decide)) og.here.row oa.here.row).mono ?_
      rintro e w21 ⟨rfl, b21⟩
      have bb21 := Below.next bb20 b21
      replace oa := oa.below b21
      replace ob := ob.below b21
      replace oq := oq.below b21
      replace or_ := or_.below b21
      replace og := og.below b21
      rw [eq_true_of rfl]
      go_wp2
      go_ret
      exact ⟨rfl, bb21⟩
    · have hYp : 0 < Y := by omega
      have hzb : (((limbs Y).length : Int) == 0) = false := by rw [beq_eq_false_iff_ne]; have := limbs_pos_len hYp; omega
      have HYP := Lib.hid hYp
      have HG0 := Lib.hid (Nat.gcd_pos_of_pos_right X hYp)
      have HGB : Hid ((Nat.gcd X Y : Int) < bp 50) := Lib.hid (by have := Nat.gcd_le_right X hYp; have := HY.out; omega)
      rw [divN_limbs HX.out HY.out hYp] at oq or_
      have HQB : Hid (((X / Y : Nat) : Int) < bp 50) := Lib.hid (by have := HX.out; have := Nat.div_le_self X Y; omega)
      have HRB : Hid (((X % Y : Nat) : Int) < bp 50) := Lib.hid (by have := HX.out; have := Nat.mod_le X Y; omega)
      have HQM : Hid (((X / Y * Y : Nat) : Int) < bp 50) := Lib.hid (by have := HX.out; have := Nat.div_mul_le_self X Y; omega)
      have HSUM : Hid (X / Y * Y + X % Y = X) := Lib.hid (by rw [Nat.mul_comm]; exact Nat.div_add_mod X Y)
      clear hY0 hYp
      go_wp2_with fail
      refine (HDiv.out (limbs X) (limbs (Nat.gcd X Y)) (len_big HX.out) (len_big HGB.out) _ _ _ oa.here og.here (hsn.below bb20)).mono ?_
      rintro e w21 ⟨vx1, Sx1, vx, Sx, rfl, _, ox, _, _, _, b21⟩
      have bb21 := Below.next bb20 b21
      replace oa := oa.below b21
      replace ob := ob.below b21
      replace oq := oq.below b21
      replace or_ := or_.below b21
      replace og := og.below b21
      rw [divN_limbs HX.out HGB.out HG0.out, mod_gcd_left, limbs_none] at ox
      go_wp2_with fail
      refine (HDiv.out (limbs Y) (limbs (Nat.gcd X Y)) (len_big HY.out) (len_big HGB.out) _ _ _ ob.here og.here (hsn.below bb21)).mono ?_
      rintro e w22 ⟨vy1, Sy1, vy, Sy, rfl, _, oy, _, _, _, b22⟩
      have bb22 := Below.next bb21 b22
      replace oa := oa.below b22
      replace ob := ob.below b22
      replace oq := oq.below b22
      replace or_ := or_.below b22
      replace og := og.below b22
      replace ox := ox.below b22
      rw [divN_limbs HY.out HGB.out HG0.out, mod_gcd_right, limbs_none] at oy
      go_wp2_with fail
      refine (HScale.out (limbs Y) k (len_big HY.out) _ _ ob.here).mono ?_
      rintro e w23 ⟨vz, Sz, rfl, oz, _, b23⟩
      have bb23 := Below.next bb22 b23
      replace oa := oa.below b23
      replace ob := ob.below b23
      replace oq := oq.below b23
      replace or_ := or_.below b23
      replace og := og.below b23
      replace ox := ox.below b23
      replace oy := oy.below b23
      rw [scaleN_nat k (by omega) HY.out HKY.out.2 HKY.out.1] at oz
      go_wp2_with fail
      refine (HZeros.out (limbs (Y * 10 ^ k)) (len_big HKY.out.1) _ _ oz.here ).mono ?_
      rintro e w24 ⟨rfl, b24⟩
      have bb24 := Below.next bb23 b24
      replace oa := oa.below b24
      replace ob := ob.below b24
      replace oq := oq.below b24
      replace or_ := or_.below b24
      replace og := og.below b24
      replace ox := ox.below b24
      replace oy := oy.below b24
      replace oz := oz.below b24
      rw [zerosN_scale k HY.out HYP.out HKY.out.1]
      have hzr : 0 ≤ zerosN (limbs Y) ∧ zerosN (limbs Y) ≤ 1000 := by
        have h1 := (zerosN_ok (limbs_okN Y HY.out) (limbs_pos_len HYP.out))
        have h2 := natTextB_size (limbs Y)
        rw [show natTextB (limbs Y) = natT (limbs Y) by unfold natTextB; rw [if_pos (limbs_okN Y HY.out)]] at h2
        rw [h1.1]
        omega
      have hzr0 := hzr.1
      have hzr1 := hzr.2
      clear hzr
      have HZ := Lib.hid (show zerosN (limbs Y) = zerosN (limbs Y) from rfl)
      clear oz
      go_wp2_with fail
      refine ((implNatMul_any _ _ (limbs (X / Y)) (limbs Y) _ _ _ _ _ (len_big HQB.out) (len_big HY.out) (Nat.le_refl _) (Nat.le_refl _) oq.here.row ob.here.row)).mono ?_
      rintro e w25 ⟨vm, rfl, om0, b25⟩
      have bb25 := Below.next bb24 b25
      replace oa := oa.below b25
      replace ob := ob.below b25
      replace oq := oq.below b25
      replace or_ := or_.below b25
      replace og := og.below b25
      replace ox := ox.below b25
      replace oy := oy.below b25
      have om := at_own om0
      clear om0
      rw [mulN_limbs HQB.out HY.out HQM.out] at om
      go_wp2_with fail
      refine ((implNatAdd_any _ _ (limbs (X / Y * Y)) (limbs (X % Y)) _ _ _ _ _ (len_big HQM.out) (len_big HRB.out) (Nat.le_refl _) (Nat.le_refl _) om.here.row or_.here.row)).mono ?_
      rintro e w26 ⟨vn, rfl, on0, b26⟩
      have bb26 := Below.next bb25 b26
      replace oa := oa.below b26
      replace ob := ob.below b26
      replace oq := oq.below b26
      replace or_ := or_.below b26
      replace og := og.below b26
      replace ox := ox.below b26
      replace oy := oy.below b26
      replace om := om.below b26
      have on := at_own on0
      clear on0
      rw [addN_limbs HQM.out HRB.out (by rw [HSUM.out]; exact HX.out), HSUM.out] at on
      go_wp2_with fail
      refine (same_any _ _ (limbs X) (limbs X) _ _ _ _ _ (Nat.le_trans (len_big HX.out) (by decide)) on.here.row oa.here.row).mono ?_
      rintro e w27 ⟨rfl, b27⟩
      have bb27 := Below.next bb26 b27
      replace oa := oa.below b27
      replace ob := ob.below b27
      replace oq := oq.below b27
      replace or_ := or_.below b27
      replace og := og.below b27
      replace ox := ox.below b27
      replace oy := oy.below b27
      replace om := om.below b27
      replace on := on.below b27
      rw [eq_true_of rfl]
      clear om
      clear on
      go_wp2_with fail
      refine (implNatCmp_any _ _ (limbs (X % Y)) (limbs Y) _ _ _ _ _ (len_big HRB.out) (len_big HY.out) (Nat.le_refl _) (Nat.le_refl _) or_.here.row ob.here.row).mono ?_
      rintro e w28 ⟨rfl, b28⟩
      have bb28 := Below.next bb27 b28
      replace oa := oa.below b28
      replace ob := ob.below b28
      replace oq := oq.below b28
      replace or_ := or_.below b28
      replace og := og.below b28
      replace ox := ox.below b28
      replace oy := oy.below b28
      rw [cmpN_limbs HRB.out HY.out, cmp_lt (show ((X % Y : Nat) : Int) < (Y : Int) by have := Nat.mod_lt X HYP.out; omega)]
      obtain ⟨Ax, cx, e1⟩ := own_len ox.here
      have e2 : vx = .slice Ax 0 cx := e1
      subst e2
      clear e1
      obtain ⟨Ay, cy, e1⟩ := own_len oy.here
      have e2 : vy = .slice Ay 0 cy := e1
      subst e2
      clear e1
      go_wp2_with fail
      refine (HZeros.out (limbs Y) (len_big HY.out) _ _ ob.here).mono ?_
      rintro e w29 ⟨rfl, b29⟩
      have bb29 := Below.next bb28 b29
      replace oa := oa.below b29
      replace ob := ob.below b29
      replace oq := oq.below b29
      replace or_ := or_.below b29
      replace og := og.below b29
      replace ox := ox.below b29
      replace oy := oy.below b29
      go_wp2
      go_ret
      exact ⟨rfl, bb29⟩
  · have hXp : 0 < X := by omega
    have hlx : 0 < (limbs X).length := limbs_pos_len hXp
    have HDG := Lib.hid (digits_size HX.out hXp)
    clear hX0 hXp
    go_wp2_with fail
    refine (implNatDigits_any _ (limbs X) _ _ _ (len_big HX.out) (Nat.le_refl _) oa.here.row (ht.below bb20)).mono ?_
    rintro e w21 ⟨rfl, b21⟩
    have bb21 := Below.next bb20 b21
    replace oa := oa.below b21
    replace ob := ob.below b21
    replace oq := oq.below b21
    replace or_ := or_.below b21
    replace og := og.below b21
    rw [HDG.out]
    go_wp2_with fail
    refine (implNatText_any _ (limbs X) _ _ _ (len_big HX.out) (Nat.le_refl _) oa.here.row (ht.below bb21)).mono ?_
    rintro e w22 ⟨rfl, b22⟩
    have bb22 := Below.next bb21 b22
    replace oa := oa.below b22
    replace ob := ob.below b22
    replace oq := oq.below b22
    replace or_ := or_.below b22
    replace og := og.below b22
    by_cases hY0 : Y = 0
    · have HDQ : Hid ((divN (limbs X) (limbs Y)).1 = []) := Lib.hid (by rw [hY0, limbs_none, divN_zero])
      have HGX : Hid (limbs (Nat.gcd X Y) = limbs X) := Lib.hid (by rw [hY0, Nat.gcd_zero_right])
      have hzb : (((limbs Y).length : Int) == 0) = true := by rw [hY0, limbs_none]; rfl
      rw [HDQ.out] at oq
      rw [HGX.out] at og
      obtain ⟨Aq, cq, e1⟩ := own_len oq.here
      have e2 : vq = .slice Aq 0 cq := e1
      subst e2
      clear hY0 e1
      go_wp2_with fail
      refine (same_any _ _ (limbs X) (limbs X) _ _ _ _ _ (Nat.le_trans (len_big HX.out) (by decide)) og.here.row oa.here.row).mono ?_
      rintro e w23 ⟨rfl, b23⟩
      have bb23 := Below.next bb22 b23
      replace oa := oa.below b23
      replace ob := ob.below b23
      replace oq := oq.below b23
      replace or_ := or_.below b23
      replace og := og.below b23
      rw [eq_true_of rfl]
      go_wp2
      go_ret
      exact ⟨rfl, bb23⟩
    · have hYp : 0 < Y := by omega
      have hzb : (((limbs Y).length : Int) == 0) = false := by rw [beq_eq_false_iff_ne]; have := limbs_pos_len hYp; omega
      have HYP := Lib.hid hYp
      have HG0 := Lib.hid (Nat.gcd_pos_of_pos_right X hYp)
      have HGB : Hid ((Nat.gcd X Y : Int) < bp 50) := Lib.hid (by have := Nat.gcd_le_right X hYp; have := HY.out; omega)
      rw [divN_limbs HX.out HY.out hYp] at oq or_
      have HQB : Hid (((X / Y : Nat) : Int) < bp 50) := Lib.hid (by have := HX.out; have := Nat.div_le_self X Y; omega)
      have HRB : Hid (((X % Y : Nat) : Int) < bp 50) := Lib.hid (by have := HX.out; have := Nat.mod_le X Y; omega)
      have HQM : Hid (((X / Y * Y : Nat) : Int) < bp 50) := Lib.hid (by have := HX.out; have := Nat.div_mul_le_self X Y; omega)
      have HSUM : Hid (X / Y * Y + X % Y = X) := Lib.hid (by rw [Nat.mul_comm]; exact Nat.div_add_mod X Y)
      clear hY0 hYp
      go_wp2_with fail
      refine (HDiv.out (limbs X) (limbs (Nat.gcd X Y)) (len_big HX.out) (len_big HGB.out) _ _ _ oa.here og.here (hsn.below bb22)).mono ?_
      rintro e w23 ⟨vx1, Sx1, vx, Sx, rfl, _, ox, _, _, _, b23⟩
      have bb23 := Below.next bb22 b23
      replace oa := oa.below b23
      replace ob := ob.below b23
      replace oq := oq.below b23
      replace or_ := or_.below b23
      replace og := og.below b23
      rw [divN_limbs HX.out HGB.out HG0.out, mod_gcd_left, limbs_none] at ox
      go_wp2_with fail
      refine (HDiv.out (limbs Y) (limbs (Nat.gcd X Y)) (len_big HY.out) (len_big HGB.out) _ _ _ ob.here og.here (hsn.below bb23)).mono ?_
      rintro e w24 ⟨vy1, Sy1, vy, Sy, rfl, _, oy, _, _, _, b24⟩
      have bb24 := Below.next bb23 b24
      replace oa := oa.below b24
      replace ob := ob.below b24
      replace oq := oq.below b24
      replace or_ := or_.below b24
      replace og := og.below b24
      replace ox := ox.below b24
      rw [divN_limbs HY.out HGB.out HG0.out, mod_gcd_right, limbs_none] at oy
      go_wp2_with fail
      refine (HScale.out (limbs Y) k (len_big HY.out) _ _ ob.here).mono ?_
      rintro e w25 ⟨vz, Sz, rfl, oz, _, b25⟩
      have bb25 := Below.next bb24 b25
      replace oa := oa.below b25
      replace ob := ob.below b25
      replace oq := oq.below b25
      replace or_ := or_.below b25
      replace og := og.below b25
      replace ox := ox.below b25
      replace oy := oy.below b25
      rw [scaleN_nat k (by omega) HY.out HKY.out.2 HKY.out.1] at oz
      go_wp2_with fail
      refine (HZeros.out (limbs (Y * 10 ^ k)) (len_big HKY.out.1) _ _ oz.here ).mono ?_
      rintro e w26 ⟨rfl, b26⟩
      have bb26 := Below.next bb25 b26
      replace oa := oa.below b26
      replace ob := ob.below b26
      replace oq := oq.below b26
      replace or_ := or_.below b26
      replace og := og.below b26
      replace ox := ox.below b26
      replace oy := oy.below b26
      replace oz := oz.below b26
      rw [zerosN_scale k HY.out HYP.out HKY.out.1]
      have hzr : 0 ≤ zerosN (limbs Y) ∧ zerosN (limbs Y) ≤ 1000 := by
        have h1 := (zerosN_ok (limbs_okN Y HY.out) (limbs_pos_len HYP.out))
        have h2 := natTextB_size (limbs Y)
        rw [show natTextB (limbs Y) = natT (limbs Y) by unfold natTextB; rw [if_pos (limbs_okN Y HY.out)]] at h2
        rw [h1.1]
        omega
      have hzr0 := hzr.1
      have hzr1 := hzr.2
      clear hzr
      have HZ := Lib.hid (show zerosN (limbs Y) = zerosN (limbs Y) from rfl)
      clear oz
      go_wp2_with fail
      refine ((implNatMul_any _ _ (limbs (X / Y)) (limbs Y) _ _ _ _ _ (len_big HQB.out) (len_big HY.out) (Nat.le_refl _) (Nat.le_refl _) oq.here.row ob.here.row)).mono ?_
      rintro e w27 ⟨vm, rfl, om0, b27⟩
      have bb27 := Below.next bb26 b27
      replace oa := oa.below b27
      replace ob := ob.below b27
      replace oq := oq.below b27
      replace or_ := or_.below b27
      replace og := og.below b27
      replace ox := ox.below b27
      replace oy := oy.below b27
      have om := at_own om0
      clear om0
      rw [mulN_limbs HQB.out HY.out HQM.out] at om
      go_wp2_with fail
      refine ((implNatAdd_any _ _ (limbs (X / Y * Y)) (limbs (X % Y)) _ _ _ _ _ (len_big HQM.out) (len_big HRB.out) (Nat.le_refl _) (Nat.le_refl _) om.here.row or_.here.row)).mono ?_
      rintro e w28 ⟨vn, rfl, on0, b28⟩
      have bb28 := Below.next bb27 b28
      replace oa := oa.below b28
      replace ob := ob.below b28
      replace oq := oq.below b28
      replace or_ := or_.below b28
      replace og := og.below b28
      replace ox := ox.below b28
      replace oy := oy.below b28
      replace om := om.below b28
      have on := at_own on0
      clear on0
      rw [addN_limbs HQM.out HRB.out (by rw [HSUM.out]; exact HX.out), HSUM.out] at on
      go_wp2_with fail
      refine (same_any _ _ (limbs X) (limbs X) _ _ _ _ _ (Nat.le_trans (len_big HX.out) (by decide)) on.here.row oa.here.row).mono ?_
      rintro e w29 ⟨rfl, b29⟩
      have bb29 := Below.next bb28 b29
      replace oa := oa.below b29
      replace ob := ob.below b29
      replace oq := oq.below b29
      replace or_ := or_.below b29
      replace og := og.below b29
      replace ox := ox.below b29
      replace oy := oy.below b29
      replace om := om.below b29
      replace on := on.below b29
      rw [eq_true_of rfl]
      clear om
      clear on
      go_wp2_with fail
      refine (implNatCmp_any _ _ (limbs (X % Y)) (limbs Y) _ _ _ _ _ (len_big HRB.out) (len_big HY.out) (Nat.le_refl _) (Nat.le_refl _) or_.here.row ob.here.row).mono ?_
      rintro e w30 ⟨rfl, b30⟩
      have bb30 := Below.next bb29 b30
      replace oa := oa.below b30
      replace ob := ob.below b30
      replace oq := oq.below b30
      replace or_ := or_.below b30
      replace og := og.below b30
      replace ox := ox.below b30
      replace oy := oy.below b30
      rw [cmpN_limbs HRB.out HY.out, cmp_lt (show ((X % Y : Nat) : Int) < (Y : Int) by have := Nat.mod_lt X HYP.out; omega)]
      obtain ⟨Ax, cx, e1⟩ := own_len ox.here
      have e2 : vx = .slice Ax 0 cx := e1
      subst e2
      clear e1
      obtain ⟨Ay, cy, e1⟩ := own_len oy.here
      have e2 : vy = .slice Ay 0 cy := e1
      subst e2
      clear e1
      go_wp2_with fail
      refine (HZeros.out (limbs Y) (len_big HY.out) _ _ ob.here).mono ?_
      rintro e w31 ⟨rfl, b31⟩
      have bb31 := Below.next bb30 b31
      replace oa := oa.below b31
      replace ob := ob.below b31
      replace oq := oq.below b31
      replace or_ := or_.below b31
      replace og := og.below b31
      replace ox := ox.below b31
      replace oy := oy.below b31
      go_wp2
      go_ret
      exact ⟨rfl, bb31⟩
end Go.Proofs.YtccajcddijhmcaaDoor
