/-
  What NatDiv, NatGcd and NatCut of package impl return; the sentinel for a division by zero is at hand.
-/
import Derived.Test.YtkkdlgiilhngcaaDoorDivide
namespace Go.Proofs.YtkkdlgiilhngcaaDoor
open Go.RowKit

theorem Below.of_chg {T : List Nat} {B : Nat} {w w1 w2 : World} (hb : Below B w w1) (c : Chg T w1 w2) (hB : B ≤ w1.heap.size) (hT : ∀ g ∈ T, B ≤ g) : Below B w w2 := below_chg hb c hB hT
theorem ok_trim {xs : List Int} (h : natOkB xs = true) : Trim xs := ok_dig h
/-- a row at hand, with blocks below B -/
theorem Row.onB {w : World} {lo hi B : Nat} {v : Value} {xs : List Value} (h : Row w lo hi v xs) (hB : hi ≤ B) : ∃ S, At S (fun w => Row w lo hi v xs) w ∧ ∀ g ∈ S, g < B := by
  obtain ⟨S, h1, h2⟩ := h.on
  exact ⟨S, h1, fun g hg => by have := (h2 g hg).2; omega⟩

set_option maxHeartbeats 1000000 in
set_option maxRecDepth 100000 in
theorem implNatDiv_any (va vb : Value) (a b : List Int) (la ha lb hb_ : Nat) (w : World) (hal : a.length ≤ 1048576) (hbl : b.length ≤ 1048576) (_hha : ha ≤ w.heap.size) (hhb : hb_ ≤ w.heap.size)
    (hra : Row w la ha va (intsV a)) (hrb : Row w lb hb_ vb (intsV b)) (hs : Sen w) :
    Calls Tryd.prog 54 #[va, vb] w (TwoRows (divN a b).1 (divN a b).2 w) := by
  by_cases oa : natOkB a = true
  · by_cases ob : natOkB b = true
    · have ha50 := (natOk_parts oa).2.1
      have hb50 := (natOk_parts ob).2.1
      have OA := Lib.hid oa
      have OB := Lib.hid ob
      by_cases h0 : 0 < b.length
      · have HV := Lib.hid (show divN a b = (limbs (nval a / nval b).toNat, limbs (nval a % nval b).toNat) by unfold divN; rw [if_pos ⟨oa, ob, h0⟩])
        have H0 := Lib.hid h0
        clear h0
        go_enter Tryd.func54, Tryd.ntmps54
        go_wp2_with fail
        refine (implNatOk_same va a la ha _ (by omega) hra).mono ?_
        rintro e w' ⟨rfl, rfl⟩
        rw [oa]
        go_wp2_with fail
        refine (implNatOk_same vb b lb hb_ _ (by omega) hrb).mono ?_
        rintro e w' ⟨rfl, rfl⟩
        rw [ob]
        clear oa ob
        go_wp2_with fail
        refine (copyNat_any va a la ha _ hal hra).mono ?_
        rintro e w1 ⟨bn, rfl, hat, b1⟩
        obtain ⟨T, hT, hTB⟩ := hat.on
        obtain ⟨S, hS, hSB⟩ := (hrb.below b1 hhb).onB hhb
        have hTlt := hT.at_.lt
        have HTB := Lib.hid hTB
        have HTL := Lib.hid hTlt
        have hst : ∀ g ∈ S, g ∉ T := fun g hg hm => by have := hSB g hg; have := hTB g hm; omega
        have HST := Lib.hid hst
        clear hSB hTB hst hTlt
        go_wp2_with fail
        refine (divide_on T S bn a vb b lb hb_ _ (by omega) (by omega) (ok_trim OA.out) (ok_trim OB.out) H0.out HST.out hS hT).mono ?_
        rintro e w2 ⟨v2, rfl, o2, hk2⟩
        have b2 : Below w.heap.size w w2 := Below.of_chg b1 hk2.2 b1.size HTB.out
        obtain ⟨es, hes⟩ := hs.below b2
        go_wp2_with fail
        refine (is_nil es _).mono ?_
        rintro e w' ⟨rfl, rfl⟩
        have hon := hk2.1
        obtain ⟨v3, hb3, o3, _, hTe⟩ := hon
        have hc3 : w2.cell? ⟨bn, 0, none⟩ = some v3 := by rw [Lib.cell_of_heap hb3]; rfl
        have HO3 := Lib.hid o3
        have HO2 := Lib.hid o2
        have HTE := Lib.hid hTe
        clear o3 o2 hTe hb3 hk2
        go_wp2
        go_quiet (fail)
        go_wp2
        go_ret2
        have hz1 := b1.size
        refine ⟨v2, v3, rfl, ?_, ?_, ?_, below_drewN b2 _⟩
        · rw [HV.out]
          exact own_base HO2.out hz1
        · rw [HV.out]
          exact own_raise HO3.out (fun g hg => HTB.out g (by rw [HTE.out, hg]; simp))
        · intro x y hx hy hxy
          have h1 := (own_lt HO2.out hx).1
          have h2 := HTL.out y (by rw [HTE.out, hy]; simp)
          omega
      · have HV := Lib.hid (show divN a b = ([], []) by unfold divN; rw [if_neg (fun h => h0 h.2.2)])
        obtain rfl : b = [] := List.eq_nil_of_length_eq_zero (by omega)
        have hrb0 := hrb
        obtain ⟨Ab, cb, rfl, _⟩ := hrb0
        clear h0
        go_enter Tryd.func54, Tryd.ntmps54
        go_wp2_with fail
        refine (implNatOk_same va a la ha _ (by omega) hra).mono ?_
        rintro e w' ⟨rfl, rfl⟩
        rw [oa]
        go_wp2_with fail
        refine (implNatOk_same _ [] lb hb_ _ (by simp) hrb).mono ?_
        rintro e w' ⟨rfl, rfl⟩
        rw [ob]
        clear oa ob
        go_wp2_with fail
        refine (copyNat_any va a la ha _ hal hra).mono ?_
        rintro e w1 ⟨bn, rfl, hat, b1⟩
        obtain ⟨es, hes⟩ := hs.below b1
        go_wp2_with fail
        refine (divide_zero bn Ab cb _ _ hes).mono ?_
        rintro e w2 ⟨rfl, q, rfl⟩
        go_wp2_with fail
        refine (is_same es _).mono ?_
        rintro e w' ⟨rfl, rfl⟩
        go_wp2
        go_ret2
        rw [HV.out]
        exact two_nil (below_drewN b1 _)
    · have ob' : natOkB b = false := by simpa using ob
      have HV := Lib.hid (show divN a b = ([], []) by unfold divN; rw [if_neg (fun h => ob h.2.1)])
      clear ob
      go_enter Tryd.func54, Tryd.ntmps54
      go_wp2_with fail
      refine (implNatOk_same va a la ha _ (by omega) hra).mono ?_
      rintro e w' ⟨rfl, rfl⟩
      rw [oa]
      go_wp2_with fail
      refine (implNatOk_same vb b lb hb_ _ (by omega) hrb).mono ?_
      rintro e w' ⟨rfl, rfl⟩
      rw [ob']
      go_wp2
      go_ret2
      rw [HV.out]
      exact two_nil (Below.refl _ _)
  · have oa' : natOkB a = false := by simpa using oa
    have HV := Lib.hid (show divN a b = ([], []) by unfold divN; rw [if_neg (fun h => oa h.1)])
    clear oa
    go_enter Tryd.func54, Tryd.ntmps54
    go_wp2_with fail
    refine (implNatOk_same va a la ha _ (by omega) hra).mono ?_
    rintro e w' ⟨rfl, rfl⟩
    rw [oa']
    go_wp2
    go_ret2
    rw [HV.out]
    exact two_nil (Below.refl _ _)
theorem implNatDiv_at (a b : List Int) (hla : a.length ≤ 1048576) (hlb : b.length ≤ 1048576) : ∀ (ua ub : Value) (W : World), OwnI ua a W → OwnI ub b W → Sen W → Calls Tryd.prog 54 #[ua, ub] W (PostII (divN a b).1 (divN a b).2 W) :=
  fun ua ub W ha hb hs => (implNatDiv_any ua ub a b _ _ _ _ W hla hlb (Nat.le_refl _) (Nat.le_refl _) ha.row hb.row hs).mono fun _ _ h => h.postII


/-- the two numbers of Euclid's algorithm -/
def EuclS (w : World) (G n : Nat) (x y : Value) (wr : World) : Prop :=
  ∃ (X Y bx by_ : Nat) (Tx Ty : List Nat), n = Y ∧ Nat.gcd X Y = G ∧ (limbs X).length ≤ 50 ∧ (limbs Y).length ≤ 50 ∧ x = .pointer (some ⟨bx, 0, none⟩) ∧ y = .pointer (some ⟨by_, 0, none⟩) ∧
    NatOn Tx bx (limbs X) wr ∧ NatOn Ty by_ (limbs Y) wr ∧ (∀ g ∈ Ty, g ∉ Tx) ∧ (∀ g ∈ Tx, w.heap.size ≤ g) ∧ (∀ g ∈ Ty, w.heap.size ≤ g) ∧ Below w.heap.size w wr
set_option maxHeartbeats 1000000 in
set_option maxRecDepth 100000 in
theorem implNatGcd_any (va vb : Value) (a b : List Int) (la ha lb hb_ : Nat) (w : World) (hal : a.length ≤ 1048576) (hbl : b.length ≤ 1048576) (hhb : hb_ ≤ w.heap.size)
    (hra : Row w la ha va (intsV a)) (hrb : Row w lb hb_ vb (intsV b)) (hs : Sen w) :
    Calls Tryd.prog 49 #[va, vb] w (NewInts (gcdN a b) w) := by
  by_cases oa : natOkB a = true
  · by_cases ob : natOkB b = true
    · have HV := Lib.hid (show gcdN a b = limbs (Nat.gcd (nval a).toNat (nval b).toNat) by unfold gcdN; rw [if_pos ⟨oa, ob⟩])
      have LA := Lib.hid (natOk_limbs oa)
      have LB := Lib.hid (natOk_limbs ob)
      have ha50 := (natOk_parts oa).2.1
      have hb50 := (natOk_parts ob).2.1
      go_enter Tryd.func49, Tryd.ntmps49
      go_wp2_with fail
      refine (implNatOk_same va a la ha _ (by omega) hra).mono ?_
      rintro e w' ⟨rfl, rfl⟩
      rw [oa]
      go_wp2_with fail
      refine (implNatOk_same vb b lb hb_ _ (by omega) hrb).mono ?_
      rintro e w' ⟨rfl, rfl⟩
      rw [ob]
      clear oa ob
      go_wp2_with fail
      refine (copyNat_any va a la ha _ hal hra).mono ?_
      rintro e w1 ⟨bx, rfl, hatx, b1⟩
      go_wp2_with fail
      refine (copyNat_any vb b lb hb_ _ hbl (hrb.below b1 hhb)).mono ?_
      rintro e w2 ⟨by_, rfl, haty, b2⟩
      obtain ⟨Tx, hTx, hBx⟩ := hatx.on
      obtain ⟨Ty, hTy, hBy⟩ := haty.on
      have hz := b1.size
      have HS : Hid (EuclS w (Nat.gcd (nval a).toNat (nval b).toNat) (nval b).toNat (.pointer (some ⟨bx, 0, none⟩)) (.pointer (some ⟨by_, 0, none⟩)) w2) := Lib.hid
        ⟨(nval a).toNat, (nval b).toNat, bx, by_, Tx, Ty, rfl, rfl, by rw [← LA.out]; exact ha50, by rw [← LB.out]; exact hb50, rfl, rfl, by rw [← LA.out]; exact (hTx.at_.below b2).here, by rw [← LB.out]; exact hTy,
          fun g hg hm => by have := hBy g hg; have := hTx.at_.lt g hm; omega, hBx, fun g hg => by have := hBy g hg; omega, Below.next b1 b2⟩
      clear hTx hTy hBx hBy hatx haty hz
      go_wp2
      go_loopg [5, 6] (nval b).toNat (fun n x y wr => EuclS w (Nat.gcd (nval a).toNat (nval b).toNat) n x y wr)
      case atStart => exact HS.out
      case round =>
        clear HS b1 b2
        obtain ⟨X, Y, bx, by_, Tx, Ty, hn, hG, hX, hY, rfl, rfl, hx, hy, hap, hBx, hBy, hb⟩ := hrel
        have HNE := Lib.hid hn
        have HG := Lib.hid hG
        have HAP := Lib.hid hap
        have HBX := Lib.hid hBx
        have HBY := Lib.hid hBy
        obtain ⟨v, hcv, hrow⟩ := NatOn.rowAt hy
        clear hn hG hap hBx hBy
        by_cases hpos : 0 < Y
        · have hlen : 0 < (limbs Y).length := by rw [limbs_pos Y (by omega)]; simp
          go_wp2_with fail
          refine (divide_on Tx Ty bx (limbs X) v (limbs Y) 0 wr.heap.size wr (by omega) (by omega) (limbs_trim X) (limbs_trim Y) hlen HAP.out hrow hx).mono ?_
          rintro e w3 ⟨q, rfl, _, hk⟩
          rw [limbs_val, limbs_val] at hk
          have b3 : Below w.heap.size w w3 := Below.of_chg hb hk.2 hb.size HBX.out
          have hy3 := (hy.at_.chg hk.2 HAP.out).here
          obtain ⟨es, hes⟩ := hs.below b3
          rw [show ((X : Int) % (Y : Int)).toNat = X % Y by omega] at hk
          have hx3 := hk.1
          clear hk hx hy hb hrow hcv
          go_wp2_with fail
          refine (is_nil es _).mono ?_
          rintro e w' ⟨rfl, rfl⟩
          have hmod := Nat.mod_lt X hpos
          have hml : (limbs (X % Y)).length ≤ 50 := Nat.le_trans (by have := limbs_mono (m := ((X % Y : Nat) : Int)) (n := (Y : Int)) (by omega) (by omega); rw [Int.toNat_natCast, Int.toNat_natCast] at this; exact this) hY
          have HR : Hid (EuclS w (Nat.gcd (nval a).toNat (nval b).toNat) (X % Y) (.pointer (some ⟨by_, 0, none⟩)) (.pointer (some ⟨bx, 0, none⟩)) w3) := Lib.hid
            ⟨Y, X % Y, by_, bx, Ty, Tx, rfl, (gcd_step X Y).trans HG.out, hY, hml, rfl, rfl, hy3, hx3, apart_symm HAP.out, HBY.out, HBX.out, b3⟩
          clear hx3 hy3 b3
          go_wp2
          go_roundg (X % Y)
          case measure => rw [HNE.out]; exact hmod
          case rel => exact HR.out
        · obtain rfl : Y = 0 := by omega
          have hv0 : ∃ A c, v = .slice A 0 c := by
            obtain ⟨A, c, e, _⟩ := hrow.here
            rw [limbs_none] at e
            exact ⟨A, c, e⟩
          obtain ⟨A0, c0, rfl⟩ := hv0
          obtain ⟨es, hes⟩ := hs.below hb
          obtain ⟨u, hbu, ou, _, hTe⟩ := hx
          have hcu : wr.cell? ⟨bx, 0, none⟩ = some u := by rw [Lib.cell_of_heap hbu]; rfl
          have HU := Lib.hid ou
          have HTE := Lib.hid hTe
          have HGX := Lib.hid (show Nat.gcd (nval a).toNat (nval b).toNat = X by rw [← HG.out, Nat.gcd_zero_right])
          clear ou hTe hbu
          go_wp2_with fail
          refine (divide_zero bx A0 c0 _ _ hes).mono ?_
          rintro e w3 ⟨rfl, q, rfl⟩
          go_wp2_with fail
          refine (is_same es _).mono ?_
          rintro e w' ⟨rfl, rfl⟩
          go_wp2
          go_ret
          exact ⟨u, rfl, by rw [HV.out, HGX.out]; exact own_raise HU.out (fun g hg => HBX.out g (by rw [HTE.out, hg]; simp)), below_drewN hb q⟩
    · have ob' : natOkB b = false := by simpa using ob
      have HV := Lib.hid (show gcdN a b = [] by unfold gcdN; rw [if_neg (fun h => ob h.2)])
      clear ob
      go_enter Tryd.func49, Tryd.ntmps49
      go_wp2_with fail
      refine (implNatOk_same va a la ha _ (by omega) hra).mono ?_
      rintro e w' ⟨rfl, rfl⟩
      rw [oa]
      go_wp2_with fail
      refine (implNatOk_same vb b lb hb_ _ (by omega) hrb).mono ?_
      rintro e w' ⟨rfl, rfl⟩
      rw [ob']
      go_wp2
      go_ret
      rw [HV.out]
      exact new_nil (Below.refl _ _)
  · have oa' : natOkB a = false := by simpa using oa
    have HV := Lib.hid (show gcdN a b = [] by unfold gcdN; rw [if_neg (fun h => oa h.1)])
    clear oa
    go_enter Tryd.func49, Tryd.ntmps49
    go_wp2_with fail
    refine (implNatOk_same va a la ha _ (by omega) hra).mono ?_
    rintro e w' ⟨rfl, rfl⟩
    rw [oa']
    go_wp2
    go_ret
    rw [HV.out]
    exact new_nil (Below.refl _ _)
theorem implNatGcd_at (a b : List Int) (hla : a.length ≤ 1048576) (hlb : b.length ≤ 1048576) : ∀ (ua ub : Value) (W : World), OwnI ua a W → OwnI ub b W → Sen W → Calls Tryd.prog 49 #[ua, ub] W (PostI (gcdN a b) W) :=
  fun ua ub W ha hb hs => (implNatGcd_any ua ub a b _ _ _ _ W hla hlb (Nat.le_refl _) ha.row hb.row hs).mono fun _ _ h => h.newV
end Go.Proofs.YtkkdlgiilhngcaaDoor
