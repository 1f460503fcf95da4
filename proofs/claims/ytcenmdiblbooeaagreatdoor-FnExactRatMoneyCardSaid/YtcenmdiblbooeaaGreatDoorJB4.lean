/-
  Plain facts behind the laws FnRound, FnModes and FnStep: what they reckon of right fractions with short parts.
  Plain facts behind the laws FnModes and FnStep: the modes' order and their mirror images, and what RoundTo makes of an integer.
  What calls of chapter 7 answer.
  Chapter 7: the modes, their names and impl's table of them.
  Chapter 7: results that lie in their boxes; quotient and rest of a fraction; sums of limbs.
  RatRest: for a right fraction both the rounded number and the rest are right fractions.
  RatMoney in plain words, and what a call answers: a new amount, a new fraction and a bool.
  The law FnExactRatMoney of chapter 10, walked: it returns true wherever both packages answer alike.
  Chapter 6 of package spec: what its functions on fractions return.
  Plain facts for impl's fractions: the operations on the parts as RatMake puts them together.
  Contracts of library functions, laid over this program: each is one application of a theorem of the library.
-/
import Derived.Laws.EntriesVeiled
import Derived.Deep.RegionHeld3
import Derived.Deep.DeepCutAuto
import Derived.Shelf.Bits.Mul64
import Derived.Shelf.Small.Bits
import Derived.Shelf.Small.Strs
import Derived.Shelf.Small.Wraps
import Derived.Shelf.Strconv.Itoa3
import Derived.Shelf.Strings.BuilderK
import Derived.Shelf.Strings.Repeat
import Derived.Shelf.Strings.Search2
import Derived.Shelf.Strings.Trim
import Derived.Test.YtcenmdiblbooeaaGreatDoorProg
import Derived.Test.YtcenmdiblbooeaaGreatDoorJB3
namespace Go.Proofs.YtcenmdiblbooeaaGreatDoor
open Go.RowKit

theorem valS_ofZ_small {z : Int} (h : (z.natAbs : Int) < bp 50) : valS (ofZ z) = z := ofZ_val (limbs_length_le _ 50 h)
theorem ofZ_nat {n : Nat} (h : (n : Int) < bp 50) : ofZ (n : Int) = (false, limbs n) := by
  unfold ofZ
  rw [show ((n : Int)).natAbs = n by omega, if_pos (limbs_length_le _ 50 h), decide_eq_false (by omega)]
theorem bp50 : (1000000000 : Int) ≤ bp 50 := by have : bp 1 ≤ bp 50 := bp_mono (by omega); have e : bp 1 = 1000000000 := rfl; omega
theorem make_nat {a b : Nat} (ha : (a : Int) < bp 50) (hb : (b : Int) < bp 50) : makeQ (ofZ (a : Int)) (ofZ (b : Int)) = lowQ false a b := by
  unfold makeQ
  rw [if_pos ⟨ofZ_ok _, ofZ_ok _⟩, ofZ_nat ha, ofZ_nat hb]
  show lowQ (false != false) (nval (limbs a)).toNat (nval (limbs b)).toNat = _
  rw [limbs_val, limbs_val, Int.toNat_natCast, Int.toNat_natCast]
  rfl
/-- an integer as a fraction -/
theorem int_bd {x : SI} {m : Nat} (ok : okS x = true) (hm : m ≤ 18) (h0 : 0 < m) (h : ((valS x).natAbs : Int) < bp m) : (makeQ x (ofZ 1)).2 = true ∧ Bd (makeQ x (ofZ 1)).1 m ∧ ratV (makeQ x (ofZ 1)).1 = ((valS x : Int) : Rat) := by
  have hp := okS_parts ok
  have ha := valS_abs x hp.1
  have eo : ofZ 1 = (false, limbs 1) := ofZ_nat (n := 1) (by have := bp50; omega)
  have e1 : (ofZ 1).1 = false := by rw [eo]
  have e2 : (nval (ofZ 1).2).toNat = 1 := by rw [eo]; show (nval (limbs 1)).toNat = 1; rw [limbs_val]; rfl
  have e : makeQ x (ofZ 1) = lowQ x.1 (nval x.2).toNat 1 := by
    unfold makeQ
    rw [if_pos ⟨ok, ofZ_ok 1⟩, e1, e2]
    cases x.1 <;> rfl
  have hb1 : ((1 : Nat) : Int) < bp m := by
    have h1 : bp 1 ≤ bp m := bp_mono h0
    have : bp 1 = 1000000000 := rfl
    omega
  obtain ⟨h1, h2, h3⟩ := low_bd (n := x.1) (a := (nval x.2).toNat) (b := 1) (by omega) hm (by omega) hb1
  rw [e]
  refine ⟨h1, h2, h3.trans ?_⟩
  have hv : (if x.1 = true then -((nval x.2).toNat : Int) else ((nval x.2).toNat : Int)) = valS x := by
    have hn := nval_ok hp.1
    unfold valS
    rw [Int.toNat_of_nonneg hn]
  rw [hv]
  simp
  grind
theorem round_abs {r : QI} {k : Nat} (h : Bd r k) (m : Int) : ((valS (roundS r m)).natAbs : Int) < bp (k + 1) := by
  have hp := parts_of h.ok
  have t := abs_top h.ok
  have h1 := roundN_le r.1.1 (topN r) (denQ r) m
  have h2 : topN r / denQ r ≤ topN r := Nat.div_le_self ..
  have h3 := h.num
  have h4 := bp_next k
  have h5 := bp_pos k
  have h6 := roundS_val hp m
  have h7 : (valS (roundS r m)).natAbs = roundN r.1.1 (topN r) (denQ r) m := by rw [h6]; split <;> omega
  omega
def unitQ : QI := (makeQ (ofZ 1) (ofZ 1)).1
def halfQ : QI := (makeQ (ofZ 1) (ofZ 2)).1
theorem unitQ_is : makeQ (ofZ 1) (ofZ 1) = (unitQ, true) ∧ okQ unitQ = true ∧ numQ unitQ = 1 ∧ denQ unitQ = 1 ∧ szQ unitQ ≤ 1048576 := by
  obtain ⟨h1, h2, h3, h4⟩ := low_is false 1 1 (by decide) (by decide) (by decide)
  have e : makeQ (ofZ 1) (ofZ 1) = lowQ false 1 1 := make_nat (a := 1) (b := 1) (by have := bp50; omega) (by have := bp50; omega)
  have ok := lowQ_ok false 1 1 h1
  have d0 := denQ_pos ok
  refine ⟨pair_eq (by rw [e]; exact h1), by first | (unfold unitQ; rw [e]; exact ok) | (unfold halfQ; rw [e]; exact ok), ?_, ?_, ?_⟩
  · unfold unitQ; rw [e]
    have hd : denQ (lowQ false 1 1).1 = 1 := by omega
    rw [hd, if_neg (by decide)] at h2
    omega
  · unfold unitQ; rw [e]
    omega
  · unfold unitQ; rw [e]; exact lowQ_sz _ _ _
theorem halfQ_is : makeQ (ofZ 1) (ofZ 2) = (halfQ, true) ∧ okQ halfQ = true ∧ numQ halfQ = 1 ∧ denQ halfQ = 2 ∧ szQ halfQ ≤ 1048576 := by
  obtain ⟨h1, h2, h3, h4⟩ := low_is false 1 2 (by decide) (by decide) (by decide)
  have e : makeQ (ofZ 1) (ofZ 2) = lowQ false 1 2 := make_nat (a := 1) (b := 2) (by have := bp50; omega) (by have := bp50; omega)
  have ok := lowQ_ok false 1 2 h1
  have d0 := denQ_pos ok
  rw [if_neg (by decide)] at h2
  refine ⟨pair_eq (by rw [e]; exact h1), by first | (unfold unitQ; rw [e]; exact ok) | (unfold halfQ; rw [e]; exact ok), ?_, ?_, ?_⟩
  · unfold halfQ; rw [e]; omega
  · unfold halfQ; rw [e]; omega
  · unfold halfQ; rw [e]; exact lowQ_sz _ _ _
/-- the size of a fraction -/
def sizeQ (q : QI) : QI := if cmpQ q oneQ < 0 then (negQ q).1 else q
theorem sizeQ_bd {q : QI} {k : Nat} (h : Bd q k) : Bd (sizeQ q) k ∧ numQ (sizeQ q) = ((numQ q).natAbs : Int) ∧ denQ (sizeQ q) = denQ q := by
  have hs := signQ_of h
  unfold sizeQ
  rw [hs]
  by_cases hn : cmpI (numQ q) 0 < 0
  · rw [if_pos hn]
    have h1 := (cmpI_facts (numQ q) 0).2.2
    obtain ⟨n1, n2, _⟩ := neg_bd h
    have e : negQ q = ((negS q.1, q.2), true) := by unfold negQ; rw [if_pos h.ok]
    have hp := okQ_parts h.ok
    have ev : numQ (negQ q).1 = - numQ q := by
      rw [e]
      have hl : (limbs (-valS q.1).natAbs).length ≤ 50 := by
        have := (natOk_parts (okS_parts hp.1).1).2.1
        have hx := natOk_limbs (okS_parts hp.1).1
        have ha := valS_abs q.1 (okS_parts hp.1).1
        rw [Int.natAbs_neg, show (valS q.1).natAbs = (nval q.1.2).toNat by omega, ← hx]
        exact this
      show valS (negS q.1) = - valS q.1
      unfold negS
      rw [if_pos hp.1, ofZ_val hl]
    refine ⟨n2, by rw [ev]; omega, by rw [e]; rfl⟩
  · rw [if_neg hn]
    have h1 := (cmpI_facts (numQ q) 0).2.2
    exact ⟨h, by omega, rfl⟩
/-- |a| < b out of a * D = e * b, |e| < D -/
theorem part_lt {a b D e : Int} (hb : 0 < b) (h : a * D = e * b) (h1 : -D < e) (h2 : e < D) : -b < a ∧ a < b := by
  have hD : 0 < D := by omega
  have k1 : e * b < D * b := Int.mul_lt_mul_of_pos_right h2 hb
  have k2 : -D * b < e * b := Int.mul_lt_mul_of_pos_right h1 hb
  constructor
  · have : -b * D < a * D := by rw [h, Int.neg_mul, Int.mul_comm b D, ← Int.neg_mul]; exact k2
    exact Int.lt_of_mul_lt_mul_right this (by omega)
  · have : a * D < b * D := by rw [h, Int.mul_comm b D]; exact k1
    exact Int.lt_of_mul_lt_mul_right this (by omega)
theorem part_le {a b D e : Int} (hb : 0 < b) (hD : 0 < D) (h : a * D = e * b) (h1 : -D ≤ 2 * e) (h2 : 2 * e ≤ D) : -b ≤ 2 * a ∧ 2 * a ≤ b := by
  have k1 : 2 * e * b ≤ D * b := Int.mul_le_mul_of_nonneg_right h2 (by omega)
  have k2 : -D * b ≤ 2 * e * b := Int.mul_le_mul_of_nonneg_right h1 (by omega)
  have h' : 2 * a * D = 2 * e * b := by rw [Int.mul_assoc, h, Int.mul_assoc]
  constructor
  · have : -b * D ≤ 2 * a * D := by rw [h', Int.neg_mul, Int.mul_comm b D, ← Int.neg_mul]; exact k2
    exact Int.le_of_mul_le_mul_right this hD
  · have : 2 * a * D ≤ b * D := by rw [h', Int.mul_comm b D]; exact k1
    exact Int.le_of_mul_le_mul_right this hD
/-- all that FnRound reckons at one mode: the rounded number, it as a fraction, the rest, their sum -/
structure RoundAll (r : QI) (m : Int) (x : SI) (b q t z : QI) : Prop where
  ex : roundS r m = x
  ok : okS x = true
  lx : szS x ≤ 1048576
  eb : makeQ x (ofZ 1) = (b, true)
  eq : subQ r b = (q, true)
  et : addQ b q = (t, true)
  tr : cmpQ t r = 0
  okq : okQ q = true
  ez : sizeQ q = z
  zz : cmpQ q oneQ < 0 → negQ q = (z, true)
  z1 : cmpQ z unitQ < 0
  zh : 4 ≤ m → m ≤ 6 → cmpQ z halfQ ≤ 0
  wh : wholeB r = decide (cmpQ q oneQ = 0)
  sz : szQ r ≤ 1048576 ∧ szQ b ≤ 1048576 ∧ szQ q ≤ 1048576 ∧ szQ t ≤ 1048576 ∧ szQ z ≤ 1048576
theorem round_all {r : QI} {m : Int} (h : Bd r 3) : ∃ (x : SI) (b q t z : QI), RoundAll r m x b q t z := by
  have okx := roundS_ok r m
  have hab := round_abs h m
  obtain ⟨b1, b2, b3⟩ := int_bd okx (by omega) (by omega) hab
  obtain ⟨q1, q2, q3⟩ := sub_bd h b2 (by omega)
  obtain ⟨t1, t2, t3⟩ := add_bd b2 q2 (by omega)
  obtain ⟨z1, z2, z3⟩ := sizeQ_bd q2
  obtain ⟨e, e1, e2, e3, e4, e5⟩ := round_val h.ok m
  have pr := h.pos
  have pq := q2.pos
  have key : numQ (subQ r (makeQ (roundS r m) (ofZ 1)).1).1 * (denQ r : Int) = -e * (denQ (subQ r (makeQ (roundS r m) (ofZ 1)).1).1 : Int) := by
    generalize (subQ r (makeQ (roundS r m) (ofZ 1)).1).1 = q at *
    have n1 := rat_ne pr
    have n2 := rat_ne pq
    have e1' : ((valS (roundS r m) : Int) : Rat) * ((denQ r : Int) : Rat) = (numQ r : Rat) + (e : Rat) := by exact_mod_cast e1
    rw [b3] at q3
    unfold ratV at q3
    have : (numQ q : Rat) * ((denQ r : Int) : Rat) = -(e : Rat) * ((denQ q : Int) : Rat) := by grind
    exact_mod_cast this
  have hlt := part_lt pq key (by omega) (by omega)
  refine ⟨_, _, _, _, _, rfl, okx, by have := roundS_len r m; unfold szS szI; omega, pair_eq b1, pair_eq q1, pair_eq t1, cmp_same t2 h (by rw [t3, q3]; grind), q2.ok, rfl, fun hn => ?_, ?_, fun h4 h6 => ?_, ?_, ?_⟩
  · have hz := (neg_bd q2).1
    unfold sizeQ
    rw [if_pos hn]
    exact pair_eq hz
  · obtain ⟨u1, u2, u3, u4, u5⟩ := unitQ_is
    unfold cmpQ
    rw [if_pos ⟨z1.ok, u2⟩, u3, u4, z2, z3]
    have := (cmpI_facts (((numQ (subQ r (makeQ (roundS r m) (ofZ 1)).1).1).natAbs : Int) * ((1 : Nat) : Int)) (1 * (denQ (subQ r (makeQ (roundS r m) (ofZ 1)).1).1 : Int))).2.2
    omega
  · obtain ⟨u1, u2, u3, u4, u5⟩ := halfQ_is
    have hle := part_le pq pr key (by have := (e4 h4 h6); omega) (by have := (e4 h4 h6); omega)
    unfold cmpQ
    rw [if_pos ⟨z1.ok, u2⟩, u3, u4, z2, z3]
    have := (cmpI_facts (((numQ (subQ r (makeQ (roundS r m) (ofZ 1)).1).1).natAbs : Int) * ((2 : Nat) : Int)) (1 * (denQ (subQ r (makeQ (roundS r m) (ofZ 1)).1).1 : Int))).2.1
    omega
  · unfold wholeB
    rw [h.ok, Bool.true_and, decide_eq_decide, ← whole_iff h.ok, ← e5, signQ_of q2, (cmpI_facts _ _).1]
    generalize (subQ r (makeQ (roundS r m) (ofZ 1)).1).1 = q at *
    constructor
    · intro he
      rw [he] at key
      rcases Int.mul_eq_zero.1 (key.trans (by simp)) with h0 | h0
      · exact h0
      · omega
    · intro he
      rw [he, Int.zero_mul] at key
      rcases Int.mul_eq_zero.1 key.symm with h0 | h0 <;> omega
  · exact ⟨bd_sz h (by omega), bd_sz b2 (by omega), bd_sz q2 (by omega), bd_sz t2 (by omega), bd_sz z1 (by omega)⟩
end Go.Proofs.YtcenmdiblbooeaaGreatDoor

namespace Go.Proofs.YtcenmdiblbooeaaGreatDoor
open Go.RowKit

/-- the mode of the opposite direction -/
def turnedM (m : Int) : Int := if m = 2 then 3 else if m = 3 then 2 else m
theorem away_turn (neg : Bool) (Q R D : Nat) {m : Int} (h : modeB m = true) : awayB (!neg) Q R D (turnedM m) = awayB neg Q R D m := by
  rcases modeB_cases h with rfl | rfl | rfl | rfl | rfl | rfl | rfl <;> cases neg <;> rfl
theorem round_turn (neg : Bool) (A D : Nat) {m : Int} (h : modeB m = true) : roundN (!neg) A D (turnedM m) = roundN neg A D m := by unfold roundN; rw [away_turn _ _ _ _ h]
theorem cmpS_val {x y : SI} (hx : okS x = true) (hy : okS y = true) : cmpS x y = cmpI (valS x) (valS y) := by unfold cmpS; rw [if_pos ⟨hx, hy⟩]
theorem negQ_is {r : QI} (h : okQ r = true) : negQ r = ((negS r.1, r.2), true) := by unfold negQ; rw [if_pos h]
theorem roundN_zero (neg : Bool) (D : Nat) (m : Int) : roundN neg 0 D m = 0 := by unfold roundN; rw [Nat.zero_mod, Nat.zero_div, if_neg (fun h => h.1 rfl)]
/-- the negated fraction, rounded the other way -/
theorem round_neg {r : QI} {k : Nat} (h : Bd r k) {m : Int} (hm : modeB m = true) : valS (roundS (negQ r).1 (turnedM m)) = - valS (roundS r m) := by
  obtain ⟨n1, n2, n3⟩ := neg_bd h
  have hp := parts_of h.ok
  have hq := parts_of n2.ok
  have hs := okS_parts (okQ_parts h.ok).1
  have e := negQ_is h.ok
  have et : topN (negQ r).1 = topN r := by rw [e]; show (nval (negS r.1).2).toNat = (nval r.1.2).toNat; rw [negS_mag (okQ_parts h.ok).1]
  have ed : denQ (negQ r).1 = denQ r := by rw [e]; rfl
  rw [roundS_val hp, roundS_val hq, et, ed]
  by_cases h0 : topN r = 0
  · rw [h0, roundN_zero, roundN_zero]; simp
  · have esg : (negQ r).1.1.1 = !r.1.1 := by
      have h1 := okS_sign (okQ_parts n2.ok).1
      have h2 := okS_sign (okQ_parts h.ok).1
      have h3 : valS (negQ r).1.1 = - valS r.1 := by rw [e]; exact negS_val (okQ_parts h.ok).1
      have h4 : (valS r.1).natAbs = topN r := (abs_top h.ok).symm
      rw [h1, h2, h3]
      by_cases hn : valS r.1 < 0
      · rw [decide_eq_true hn, decide_eq_false (by omega)]; rfl
      · rw [decide_eq_false hn, decide_eq_true (by omega)]; rfl
    rw [esg, round_turn _ _ _ hm]
    cases r.1.1 <;> simp
theorem round_order {r : QI} (h : okQ r = true) (m : Int) : valS (roundS r 2) ≤ valS (roundS r m) ∧ valS (roundS r m) ≤ valS (roundS r 3) := by
  have hp := parts_of h
  rw [roundS_val hp, roundS_val hp, roundS_val hp]
  have c := roundN_cases r.1.1 (topN r) (denQ r) m
  have c2 := roundN_cases r.1.1 (topN r) (denQ r) 2
  have c3 := roundN_cases r.1.1 (topN r) (denQ r) 3
  rw [show awayB r.1.1 (topN r / denQ r) (topN r % denQ r) (denQ r) 2 = r.1.1 from rfl] at c2
  rw [show awayB r.1.1 (topN r / denQ r) (topN r % denQ r) (denQ r) 3 = !r.1.1 from rfl] at c3
  generalize r.1.1 = n at *
  generalize topN r / denQ r = Q at *
  generalize topN r % denQ r = R at *
  generalize roundN n (topN r) (denQ r) m = k at *
  generalize roundN n (topN r) (denQ r) 2 = k2 at *
  generalize roundN n (topN r) (denQ r) 3 = k3 at *
  generalize awayB n Q R (denQ r) m = a at *
  clear hp h
  cases n <;> cases a <;> simp at c c2 c3 ⊢ <;> omega
theorem limbs_head (k : Nat) : (limbs k).headD 0 % 2 = ((k % 2 : Nat) : Int) := by
  by_cases h : k = 0
  · subst h; rw [limbs, dif_pos rfl]; rfl
  · rw [limbs, dif_neg h]
    show ((k % 1000000000 : Nat) : Int) % 2 = _
    omega
theorem even_half {r : QI} (h : okQ r = true) (hh : halfB r = true) : evenB (roundS r 6).2 = true := by
  have hp := parts_of h
  have hd : denQ r = 2 := by
    unfold halfB at hh
    rw [h, Bool.true_and] at hh
    exact of_decide_eq_true hh
  have hl := round_len hp 6
  have e2 : (roundS r 6).2 = limbs (roundN r.1.1 (topN r) (denQ r) 6) := by
    show (mkS r.1.1 _).2 = _
    show capL _ = _
    unfold capL
    rw [if_neg (by omega)]
  have hg : Nat.gcd (topN r) (denQ r) = 1 := (okQ_parts h).2.2.2.2.2
  have c := roundN_cases r.1.1 (topN r) (denQ r) 6
  have ea : awayB r.1.1 (topN r / denQ r) (topN r % denQ r) (denQ r) 6 = (decide (denQ r < 2 * (topN r % denQ r)) || (decide (2 * (topN r % denQ r) = denQ r) && decide ((topN r / denQ r) % 2 = 1))) := rfl
  rw [ea, Bool.or_eq_true, Bool.or_eq_false_iff, Bool.and_eq_true, Bool.and_eq_false_iff, decide_eq_true_eq, decide_eq_true_eq, decide_eq_true_eq, decide_eq_false_iff_not, decide_eq_false_iff_not, decide_eq_false_iff_not] at c
  have hodd : topN r % 2 = 1 := by
    rcases Nat.mod_two_eq_zero_or_one (topN r) with h0 | h0
    · have h1 : 2 ∣ Nat.gcd (topN r) (denQ r) := Nat.dvd_gcd (Nat.dvd_of_mod_eq_zero h0) (by rw [hd]; exact Nat.dvd_refl 2)
      rw [hg] at h1
      have := Nat.le_of_dvd (by omega) h1
      omega
    · exact h0
  rw [e2]
  unfold evenB
  rw [limbs_okL _ (by omega), Bool.true_and, decide_eq_true_eq, limbs_head]
  rw [hd] at c ⊢
  have : roundN r.1.1 (topN r) 2 6 % 2 = 0 := by omega
  omega
/-- all that FnModes reckons at one mode -/
structure ModeAll (r : QI) (m : Int) (lo hi x y : SI) : Prop where
  lx : szS x ≤ 1048576
  ly : szS y ≤ 1048576
  ex : roundS r m = x
  ey : roundS (negQ r).1 (turnedM m) = y
  lo : cmpS lo x ≤ 0
  hi : cmpS x hi ≤ 0
  ng : cmpS x (negS y) = 0
theorem roundS_sz (r : QI) (m : Int) : szS (roundS r m) ≤ 1048576 := by have := roundS_len r m; unfold szS szI; omega
theorem mode_all {r : QI} {k : Nat} (h : Bd r k) {m : Int} (hm : modeB m = true) : ∃ x y, ModeAll r m (roundS r 2) (roundS r 3) x y := by
  have ho := round_order h.ok m
  have hn := round_neg h hm
  refine ⟨_, _, roundS_sz _ _, roundS_sz _ _, rfl, rfl, ?_, ?_, ?_⟩
  · rw [cmpS_val (roundS_ok _ _) (roundS_ok _ _), (cmpI_facts _ _).2.1]; exact ho.1
  · rw [cmpS_val (roundS_ok _ _) (roundS_ok _ _), (cmpI_facts _ _).2.1]; exact ho.2
  · rw [cmpS_val (roundS_ok _ _) (negS_ok _), negS_val (roundS_ok _ _), hn, Int.neg_neg, (cmpI_facts _ _).1]

/-! ### RoundTo -/
theorem quot_is {x : SI} {n : Int} {k : Nat} (ok : okS x = true) (hk : k ≤ 18) (h0 : 1 ≤ k) (hx : ((valS x).natAbs : Int) < bp k) (h1 : 1 ≤ n) (h2 : n ≤ 1000000) :
    (makeQ x (ofZ n)).2 = true ∧ Bd (makeQ x (ofZ n)).1 k ∧ numQ (makeQ x (ofZ n)).1 * n = valS x * denQ (makeQ x (ofZ n)).1 := by
  have hp := okS_parts ok
  have ha := valS_abs x hp.1
  have hnn := nval_ok hp.1
  have b1 : bp 1 = 1000000000 := rfl
  have b1k : bp 1 ≤ bp k := bp_mono h0
  have hl : (limbs n.natAbs).length ≤ 50 := limbs_length_le _ 50 (by have : bp 1 ≤ bp 50 := bp_mono (by omega); omega)
  have en : ofZ n = (false, limbs n.toNat) := by
    unfold ofZ
    rw [if_pos hl, decide_eq_false (by omega), show n.natAbs = n.toNat by omega]
  have e : makeQ x (ofZ n) = lowQ x.1 (nval x.2).toNat n.toNat := by
    unfold makeQ
    rw [if_pos ⟨ok, ofZ_ok n⟩, en, limbs_val, Int.toNat_natCast]
    cases x.1 <;> rfl
  have hN : ((nval x.2).toNat : Int) < bp k := by omega
  have hD : ((n.toNat : Nat) : Int) < bp k := by omega
  have h18 := bp_mono hk
  obtain ⟨l1, l2, l3, l4⟩ := low_is x.1 (nval x.2).toNat n.toNat (by omega) (by omega) (by omega)
  rw [e]
  refine ⟨l1, ⟨lowQ_ok _ _ _ l1, by omega, by omega⟩, ?_⟩
  have hv : (if x.1 = true then -((nval x.2).toNat : Int) else ((nval x.2).toNat : Int)) = valS x := by
    unfold valS
    rw [Int.toNat_of_nonneg hnn]
  rw [hv, Int.toNat_of_nonneg (by omega)] at l2
  exact l2
/-- all that FnStep reckons -/
structure StepAll (x : SI) (n m : Int) (y d : SI) : Prop where
  ey : stepS x n m = y
  by_ : stepB x n m = true
  ez : stepS y n m = y
  bz : stepB y n m = true
  dv : (divN y.2 (limbs n.toNat)).2 = []
  yy : cmpS y y = 0
  ed : absS (subS x y) = d
  lt : cmpS d (ofZ n) < 0
  sz : szS x ≤ 1048576 ∧ szS y ≤ 1048576 ∧ szS (subS x y) ≤ 1048576 ∧ szS d ≤ 1048576 ∧ szS (ofZ n) ≤ 1048576
theorem szS_50 {x : SI} (h : okS x = true) : szS x ≤ 1048576 := by have := (natOk_parts (okS_parts h).1).2.1; unfold szS szI; omega
theorem mulS_ok (x y : SI) : okS (mulS x y) = true := by unfold mulS; split; exact ofZ_ok _; exact zeroS_ok
theorem subSM_ok (x y : SI) : okS (subS x y) = true := by unfold subS; split; exact ofZ_ok _; exact zeroS_ok
theorem absS_ok (x : SI) : okS (absS x) = true := by unfold absS; split; exact ofZ_ok _; exact zeroS_ok
theorem small_ofZ {z : Int} {k : Nat} (h : (z.natAbs : Int) < bp k) (hk : k ≤ 50) : valS (ofZ z) = z := ofZ_val (limbs_length_le _ 50 (by have := bp_mono hk; omega))
theorem step_all {x : SI} {n m : Int} (ok : okS x = true) (hx : x.2.length ≤ 3) (h1 : 1 ≤ n) (h2 : n ≤ 500) (hm : modeB m = true) : ∃ y d, StepAll x n m y d := by
  have hp := okS_parts ok
  have ha := valS_abs x hp.1
  have hab : ((valS x).natAbs : Int) < bp 3 := by
    have h3 := nval_lt x.2 (natOk_parts hp.1).1
    have h4 := nval_ok hp.1
    have h5 : bp x.2.length ≤ bp 3 := bp_mono hx
    omega
  obtain ⟨q1, q2, q3⟩ := quot_is ok (k := 3) (by omega) (by omega) hab h1 (by omega)
  have hr := round_abs q2 m
  obtain ⟨e, e1, e2, e3, e4, e5⟩ := round_val q2.ok m
  have hsb : stepB x n m = true := by unfold stepB; rw [ok, decide_eq_true (show x.2.length ≤ 18 by omega), decide_eq_true (show 1 ≤ n ∧ n ≤ 1000000 by omega), hm]; rfl
  have ey : stepS x n m = mulS (roundS (makeQ x (ofZ n)).1 m) (ofZ n) := by unfold stepS; rw [if_pos hsb]
  have b1 : bp 1 = 1000000000 := rfl
  have vn : valS (ofZ n) = n := small_ofZ (k := 1) (by omega) (by omega)
  obtain ⟨X, hX⟩ : ∃ X, roundS (makeQ x (ofZ n)).1 m = X := ⟨_, rfl⟩
  have okX : okS X = true := by rw [← hX]; exact roundS_ok _ _
  rw [hX] at hr e1 ey
  have hXn : ((valS X * n).natAbs : Int) < bp 5 := by
    have := mul_lt (a := (valS X).natAbs) (b := n.natAbs) (i := 4) (j := 1) hr (by omega)
    rw [Int.natAbs_mul]
    exact this
  have vy : valS (mulS X (ofZ n)) = valS X * n := by
    unfold mulS
    rw [if_pos ⟨okX, ofZ_ok n⟩, vn]
    exact small_ofZ hXn (by omega)
  obtain ⟨y, hy⟩ : ∃ y, mulS X (ofZ n) = y := ⟨_, rfl⟩
  have oky : okS y = true := by rw [← hy]; exact mulS_ok _ _
  rw [hy] at ey vy
  have hpy := okS_parts oky
  have hay := valS_abs y hpy.1
  have hyl : y.2.length ≤ 5 := by
    rw [natOk_limbs hpy.1]
    refine limbs_length_le _ 5 ?_
    rw [← hay, vy]
    exact hXn
  have hsz : stepB y n m = true := by unfold stepB; rw [oky, decide_eq_true (show y.2.length ≤ 18 by omega), decide_eq_true (show 1 ≤ n ∧ n ≤ 1000000 by omega), hm]; rfl
  -- the quotient of y is an integer
  obtain ⟨p1, p2, p3⟩ := quot_is oky (k := 5) (by omega) (by omega) (by rw [vy]; exact hXn) h1 (by omega)
  have hint : roundS (makeQ y (ofZ n)).1 m = X := by
    obtain ⟨f, f1, f2, f3, f4, f5⟩ := round_val p2.ok m
    have pd := p2.pos
    have hnum : numQ (makeQ y (ofZ n)).1 = valS X * denQ (makeQ y (ofZ n)).1 := by
      have : numQ (makeQ y (ofZ n)).1 * n = valS X * denQ (makeQ y (ofZ n)).1 * n := by rw [p3, vy]; ac_rfl
      exact Int.eq_of_mul_eq_mul_right (by omega) this
    have hmod : topN (makeQ y (ofZ n)).1 % denQ (makeQ y (ofZ n)).1 = 0 := by
      rw [abs_top p2.ok, hnum, Int.natAbs_mul, Int.natAbs_natCast, Nat.mul_mod_left]
    have hf0 := f5.2 hmod
    have hd1 := (whole_iff p2.ok).1 hmod
    rw [hf0, hnum, hd1] at f1
    have hv : valS (roundS (makeQ y (ofZ n)).1 m) = valS X := by omega
    rw [← okS_ofZ (roundS_ok _ m), hv, okS_ofZ okX]
  have ez : stepS y n m = y := by unfold stepS; rw [if_pos hsz, hint, hy]
  -- how far it is off
  have pq := q2.pos
  have hoff : -n < valS y - valS x ∧ valS y - valS x < n := by
    refine part_lt (D := (denQ (makeQ x (ofZ n)).1 : Int)) (e := e) (by omega) ?_ e2 e3
    rw [Int.sub_mul, ← q3, vy]
    have : valS X * n * (denQ (makeQ x (ofZ n)).1 : Int) = (numQ (makeQ x (ofZ n)).1 + e) * n := by rw [← e1]; ac_rfl
    rw [this, Int.add_mul]
    omega
  have hsub : ((valS x - valS y).natAbs : Int) < bp 1 := by omega
  have vs : valS (subS x y) = valS x - valS y := by
    unfold subS
    rw [if_pos ⟨ok, oky⟩]
    exact small_ofZ hsub (by omega)
  have vd : valS (absS (subS x y)) = ((valS x - valS y).natAbs : Int) := by
    unfold absS
    rw [if_pos (subSM_ok x y), vs]
    exact small_ofZ (k := 1) (by omega) (by omega)
  have okn : natOkB (limbs n.toNat) = true := limbs_okL _ (limbs_length_le _ 50 (by have : bp 1 ≤ bp 50 := bp_mono (by omega); omega))
  have hnl : 0 < (limbs n.toNat).length := by
    rcases Nat.eq_zero_or_pos (limbs n.toNat).length with h0 | h0
    · have := (limbs_zero_iff _).1 h0; omega
    · exact h0
  refine ⟨y, _, ey, hsb, ez, hsz, ?_, ?_, rfl, ?_, szS_50 ok, szS_50 oky, szS_50 (subSM_ok _ _), szS_50 (absS_ok _), szS_50 (ofZ_ok _)⟩
  · unfold divN
    rw [if_pos ⟨hpy.1, okn, hnl⟩, limbs_val, Int.toNat_of_nonneg (by omega)]
    have hnv := nval_ok hpy.1
    have hz : nval y.2 % n = 0 := by
      have h3 : nval y.2 = ((valS X).natAbs : Int) * n := by
        have h4 : (valS y).natAbs = (valS X).natAbs * n.natAbs := by rw [vy, Int.natAbs_mul]
        have h5 : (n.natAbs : Int) = n := by omega
        have h6 : nval y.2 = ((valS y).natAbs : Int) := by omega
        rw [h6, h4, Int.natCast_mul, h5]
      rw [h3, Int.mul_emod_left]
    rw [hz, show (0 : Int).toNat = 0 from rfl]
    show limbs 0 = []
    rw [limbs, dif_pos rfl]
  · rw [cmpS_val oky oky, (cmpI_facts _ _).1]
  · rw [cmpS_val (absS_ok _) (ofZ_ok _), vd, vn]
    have := (cmpI_facts ((valS x - valS y).natAbs : Int) n).2.2
    omega
end Go.Proofs.YtcenmdiblbooeaaGreatDoor

namespace Go.Proofs.YtcenmdiblbooeaaGreatDoor
open Go.RowKit

/-- what a call answers: a new signed number and a bool; a new signed number, a new fraction and a bool -/
def PostSb (R0 : SI) (R1 : Bool) (w : World) (e : Ending) (w' : World) : Prop :=
  ∃ (v : Value) (S : List Nat), e = .returned (.tuple #[v, .bool R1]) ∧ At S (OwnS v R0) w' ∧ Within S w.heap.size w'.heap.size ∧ Below w.heap.size w w'
def PostSQb (R0 : SI) (R1 : QI) (R2 : Bool) (w : World) (e : Ending) (w' : World) : Prop :=
  ∃ (v u : Value) (S T : List Nat), e = .returned (.tuple #[v, u, .bool R2]) ∧ At S (OwnS v R0) w' ∧ At T (OwnQ u R1) w' ∧ (∀ g ∈ S, g ∉ T) ∧ Within S w.heap.size w'.heap.size ∧ Within T w.heap.size w'.heap.size ∧ Below w.heap.size w w'
theorem postSb_eq {a r : SI} {b k : Bool} {w w' : World} {e : Ending} (h : PostSb a b w e w') (ha : a = r) (hb : b = k) : PostSb r k w e w' := by subst ha hb; exact h
end Go.Proofs.YtcenmdiblbooeaaGreatDoor

namespace Go.Proofs.YtcenmdiblbooeaaGreatDoor
open Go.RowKit

theorem modeB_in (m : Int) : inB m 0 6 = modeB m := rfl
set_option maxHeartbeats 400000 in
set_option maxRecDepth 100000 in
theorem l06Mode_any (m : Int) (w : World) : Calls Tryz.prog 128 #[.int .i64 m] w (Postb (modeB m) w) := by
  go_enter Tryz.func128, Tryz.ntmps128
  go_wp2_with fail
  refine (specIn_any m 0 6 (modeB m) _ (modeB_in m)).mono ?_
  rintro e w1 ⟨rfl, rfl⟩
  go_wp2
  go_ret
  exact ⟨rfl, Below.refl _ _⟩
/-- what a call answers that gives a string -/
def PostN (s : ByteArray) (w : World) (e : Ending) (w' : World) : Prop := e = .returned (.string s) ∧ Below w.heap.size w w'
theorem bytes_neM {a b : ByteArray} (h : ¬ a = b) : (a.toList == b.toList) = false := by
  rw [beq_eq_false_iff_ne]
  rw [ByteArray.toList_eq, ByteArray.toList_eq]
  exact fun e => h (WideShapes.bytes_inj e)
theorem bytes_eqM {a b : ByteArray} (h : a = b) : (a.toList == b.toList) = true := by subst h; exact beq_self_eq_true _
/-- impl's table of the modes -/
def modeCells : Array Value := #[.string ⟨#[100, 111, 119, 110]⟩, .func (.func 197) #[] #[], .string ⟨#[117, 112]⟩, .func (.func 198) #[] #[], .string ⟨#[102, 108, 111, 111, 114]⟩, .func (.func 199) #[] #[], .string ⟨#[99, 101, 105, 108]⟩, .func (.func 200) #[] #[], .string ⟨#[104, 97, 108, 102, 100, 111, 119, 110]⟩, .func (.func 201) #[] #[], .string ⟨#[104, 97, 108, 102, 117, 112]⟩, .func (.func 203) #[] #[], .string ⟨#[104, 97, 108, 102, 101, 118, 101, 110]⟩, .func (.func 204) #[] #[]]
set_option maxHeartbeats 1000000 in
set_option maxRecDepth 100000 in
theorem roundings_any (w : World) : Calls Tryz.prog 171 #[] w fun e w' => ∃ b : Nat, e = .returned (.slice (some ⟨b, 0, none⟩) 7 7) ∧ At [b] (BoxAt b modeCells 165) w' ∧ w.heap.size ≤ b ∧ Below w.heap.size w w' := by
  go_enter Tryz.func171, Tryz.ntmps171
  go_wp2
  go_ret
  exact ⟨_, rfl, box_new _ _ _, Nat.le_refl _, below_al (Below.refl _ _) _⟩
theorem below_set2M {W0 W : World} {g : Nat} {a b : Value} (h : Below W0.heap.size W0 W) (hg : W0.heap.size ≤ g) : Below W0.heap.size W0 ((W.setCell ⟨g, 0, none⟩ a).setCell ⟨g, 1, none⟩ b) := (h.setCell (p := ⟨g, 0, none⟩) hg _).setCell (p := ⟨g, 1, none⟩) hg _
/-- the function that impl's table holds for a mode -/
def fnOf (m : Int) : FuncId := if m = 0 then 197 else if m = 1 then 198 else if m = 2 then 199 else if m = 3 then 200 else if m = 4 then 201 else if m = 5 then 203 else 204
def PostRM (s : ByteArray) (f : Value) (b : Bool) (w : World) (e : Ending) (w' : World) : Prop := e = .returned (.tuple #[.agg #[.string s, f], .bool b]) ∧ Below w.heap.size w w'
set_option maxHeartbeats 4000000 in
set_option maxRecDepth 100000 in
theorem roundingOf_mode (m : Int) (hm : modeB m = true) (w : World) : Calls Tryz.prog 133 #[.int .i64 m] w (PostRM (nameB m) (.func (.func (fnOf m)) #[] #[]) true w) := by
  have bb0 : Below w.heap.size w (w.alloc (.cells #[.string ⟨#[]⟩, .nilFunc] 165)) := below_al (Below.refl _ _) _
  have ko := box_new w #[.string ⟨#[]⟩, .nilFunc] 165
  rcases modeB_cases hm with rfl | rfl | rfl | rfl | rfl | rfl | rfl
  · clear hm
    go_enter Tryz.func133, Tryz.ntmps133
    go_wp2_with fail
    refine (roundings_any _).mono ?_
    rintro e w1 ⟨b, rfl, kb, hb, b1⟩
    have bb1 := Below.next bb0 b1
    replace ko := ko.below b1
    have cb0 : w1.cell? ⟨b, 0, none⟩ = some (.string ⟨#[100, 111, 119, 110]⟩) := kb.here.cell 0 _ rfl
    have cb1 : w1.cell? ⟨b, 1, none⟩ = some (.func (.func 197) #[] #[]) := kb.here.cell 1 _ rfl
    have cz0 := ko.here.cell 0 _ rfl
    have cz1 := ko.here.cell 1 _ rfl
    have fz0 := Lib.frozen_of_heap ko.here 0
    have fz1 := Lib.frozen_of_heap ko.here 1
    go_wp2
    refine bodyPost_ret (v := .tuple #[.agg #[.string ⟨#[100, 111, 119, 110]⟩, .func (.func 197) #[] #[]], .bool true]) (by simp [results, Tryz.results133, go_sem, cz0, cz1]) rfl ?_
    exact ⟨rfl, below_set2M bb1 (Nat.le_refl _)⟩
  · clear hm
    go_enter Tryz.func133, Tryz.ntmps133
    go_wp2_with fail
    refine (roundings_any _).mono ?_
    rintro e w1 ⟨b, rfl, kb, hb, b1⟩
    have bb1 := Below.next bb0 b1
    replace ko := ko.below b1
    have cb0 : w1.cell? ⟨b, 2, none⟩ = some (.string ⟨#[117, 112]⟩) := kb.here.cell 2 _ rfl
    have cb1 : w1.cell? ⟨b, 3, none⟩ = some (.func (.func 198) #[] #[]) := kb.here.cell 3 _ rfl
    have cz0 := ko.here.cell 0 _ rfl
    have cz1 := ko.here.cell 1 _ rfl
    have fz0 := Lib.frozen_of_heap ko.here 0
    have fz1 := Lib.frozen_of_heap ko.here 1
    go_wp2
    refine bodyPost_ret (v := .tuple #[.agg #[.string ⟨#[117, 112]⟩, .func (.func 198) #[] #[]], .bool true]) (by simp [results, Tryz.results133, go_sem, cz0, cz1]) rfl ?_
    exact ⟨rfl, below_set2M bb1 (Nat.le_refl _)⟩
  · clear hm
    go_enter Tryz.func133, Tryz.ntmps133
    go_wp2_with fail
    refine (roundings_any _).mono ?_
    rintro e w1 ⟨b, rfl, kb, hb, b1⟩
    have bb1 := Below.next bb0 b1
    replace ko := ko.below b1
    have cb0 : w1.cell? ⟨b, 4, none⟩ = some (.string ⟨#[102, 108, 111, 111, 114]⟩) := kb.here.cell 4 _ rfl
    have cb1 : w1.cell? ⟨b, 5, none⟩ = some (.func (.func 199) #[] #[]) := kb.here.cell 5 _ rfl
    have cz0 := ko.here.cell 0 _ rfl
    have cz1 := ko.here.cell 1 _ rfl
    have fz0 := Lib.frozen_of_heap ko.here 0
    have fz1 := Lib.frozen_of_heap ko.here 1
    go_wp2
    refine bodyPost_ret (v := .tuple #[.agg #[.string ⟨#[102, 108, 111, 111, 114]⟩, .func (.func 199) #[] #[]], .bool true]) (by simp [results, Tryz.results133, go_sem, cz0, cz1]) rfl ?_
    exact ⟨rfl, below_set2M bb1 (Nat.le_refl _)⟩
  · clear hm
    go_enter Tryz.func133, Tryz.ntmps133
    go_wp2_with fail
    refine (roundings_any _).mono ?_
    rintro e w1 ⟨b, rfl, kb, hb, b1⟩
    have bb1 := Below.next bb0 b1
    replace ko := ko.below b1
    have cb0 : w1.cell? ⟨b, 6, none⟩ = some (.string ⟨#[99, 101, 105, 108]⟩) := kb.here.cell 6 _ rfl
    have cb1 : w1.cell? ⟨b, 7, none⟩ = some (.func (.func 200) #[] #[]) := kb.here.cell 7 _ rfl
    have cz0 := ko.here.cell 0 _ rfl
    have cz1 := ko.here.cell 1 _ rfl
    have fz0 := Lib.frozen_of_heap ko.here 0
    have fz1 := Lib.frozen_of_heap ko.here 1
    go_wp2
    refine bodyPost_ret (v := .tuple #[.agg #[.string ⟨#[99, 101, 105, 108]⟩, .func (.func 200) #[] #[]], .bool true]) (by simp [results, Tryz.results133, go_sem, cz0, cz1]) rfl ?_
    exact ⟨rfl, below_set2M bb1 (Nat.le_refl _)⟩
  · clear hm
    go_enter Tryz.func133, Tryz.ntmps133
    go_wp2_with fail
    refine (roundings_any _).mono ?_
    rintro e w1 ⟨b, rfl, kb, hb, b1⟩
    have bb1 := Below.next bb0 b1
    replace ko := ko.below b1
    have cb0 : w1.cell? ⟨b, 8, none⟩ = some (.string ⟨#[104, 97, 108, 102, 100, 111, 119, 110]⟩) := kb.here.cell 8 _ rfl
    have cb1 : w1.cell? ⟨b, 9, none⟩ = some (.func (.func 201) #[] #[]) := kb.here.cell 9 _ rfl
    have cz0 := ko.here.cell 0 _ rfl
    have cz1 := ko.here.cell 1 _ rfl
    have fz0 := Lib.frozen_of_heap ko.here 0
    have fz1 := Lib.frozen_of_heap ko.here 1
    go_wp2
    refine bodyPost_ret (v := .tuple #[.agg #[.string ⟨#[104, 97, 108, 102, 100, 111, 119, 110]⟩, .func (.func 201) #[] #[]], .bool true]) (by simp [results, Tryz.results133, go_sem, cz0, cz1]) rfl ?_
    exact ⟨rfl, below_set2M bb1 (Nat.le_refl _)⟩
  · clear hm
    go_enter Tryz.func133, Tryz.ntmps133
    go_wp2_with fail
    refine (roundings_any _).mono ?_
    rintro e w1 ⟨b, rfl, kb, hb, b1⟩
    have bb1 := Below.next bb0 b1
    replace ko := ko.below b1
    have cb0 : w1.cell? ⟨b, 10, none⟩ = some (.string ⟨#[104, 97, 108, 102, 117, 112]⟩) := kb.here.cell 10 _ rfl
    have cb1 : w1.cell? ⟨b, 11, none⟩ = some (.func (.func 203) #[] #[]) := kb.here.cell 11 _ rfl
    have cz0 := ko.here.cell 0 _ rfl
    have cz1 := ko.here.cell 1 _ rfl
    have fz0 := Lib.frozen_of_heap ko.here 0
    have fz1 := Lib.frozen_of_heap ko.here 1
    go_wp2
    refine bodyPost_ret (v := .tuple #[.agg #[.string ⟨#[104, 97, 108, 102, 117, 112]⟩, .func (.func 203) #[] #[]], .bool true]) (by simp [results, Tryz.results133, go_sem, cz0, cz1]) rfl ?_
    exact ⟨rfl, below_set2M bb1 (Nat.le_refl _)⟩
  · clear hm
    go_enter Tryz.func133, Tryz.ntmps133
    go_wp2_with fail
    refine (roundings_any _).mono ?_
    rintro e w1 ⟨b, rfl, kb, hb, b1⟩
    have bb1 := Below.next bb0 b1
    replace ko := ko.below b1
    have cb0 : w1.cell? ⟨b, 12, none⟩ = some (.string ⟨#[104, 97, 108, 102, 101, 118, 101, 110]⟩) := kb.here.cell 12 _ rfl
    have cb1 : w1.cell? ⟨b, 13, none⟩ = some (.func (.func 204) #[] #[]) := kb.here.cell 13 _ rfl
    have cz0 := ko.here.cell 0 _ rfl
    have cz1 := ko.here.cell 1 _ rfl
    have fz0 := Lib.frozen_of_heap ko.here 0
    have fz1 := Lib.frozen_of_heap ko.here 1
    go_wp2
    refine bodyPost_ret (v := .tuple #[.agg #[.string ⟨#[104, 97, 108, 102, 101, 118, 101, 110]⟩, .func (.func 204) #[] #[]], .bool true]) (by simp [results, Tryz.results133, go_sem, cz0, cz1]) rfl ?_
    exact ⟨rfl, below_set2M bb1 (Nat.le_refl _)⟩
set_option maxHeartbeats 4000000 in
set_option maxRecDepth 100000 in
theorem roundingOf_none (m : Int) (hm : ¬ modeB m = true) (w : World) : Calls Tryz.prog 133 #[.int .i64 m] w (PostRM ⟨#[]⟩ .nilFunc false w) := by
  have bb0 : Below w.heap.size w (w.alloc (.cells #[.string ⟨#[]⟩, .nilFunc] 165)) := below_al (Below.refl _ _) _
  have ko := box_new w #[.string ⟨#[]⟩, .nilFunc] 165
  have h6 := (modeB_false hm).2
  clear hm
  by_cases h0 : m < 0
  · clear h6
    go_enter Tryz.func133, Tryz.ntmps133
    go_wp2_with fail
    refine (roundings_any _).mono ?_
    rintro e w1 ⟨b, rfl, kb, hb, b1⟩
    have bb1 := Below.next bb0 b1
    replace ko := ko.below b1
    have cz0 := ko.here.cell 0 _ rfl
    have cz1 := ko.here.cell 1 _ rfl
    have fz0 := Lib.frozen_of_heap ko.here 0
    have fz1 := Lib.frozen_of_heap ko.here 1
    go_wp2
    refine bodyPost_ret (v := .tuple #[.agg #[.string ⟨#[]⟩, .nilFunc], .bool false]) (by simp [results, Tryz.results133, go_sem, cz0, cz1]) rfl ?_
    exact ⟨rfl, below_set2M bb1 (Nat.le_refl _)⟩
  · have h7 : ((7 : Nat) : Int) ≤ m := by omega
    clear h6
    go_enter Tryz.func133, Tryz.ntmps133
    go_wp2_with fail
    refine (roundings_any _).mono ?_
    rintro e w1 ⟨b, rfl, kb, hb, b1⟩
    have bb1 := Below.next bb0 b1
    replace ko := ko.below b1
    have cz0 := ko.here.cell 0 _ rfl
    have cz1 := ko.here.cell 1 _ rfl
    have fz0 := Lib.frozen_of_heap ko.here 0
    have fz1 := Lib.frozen_of_heap ko.here 1
    go_wp2
    refine bodyPost_ret (v := .tuple #[.agg #[.string ⟨#[]⟩, .nilFunc], .bool false]) (by simp [results, Tryz.results133, go_sem, cz0, cz1]) rfl ?_
    exact ⟨rfl, below_set2M bb1 (Nat.le_refl _)⟩
end Go.Proofs.YtcenmdiblbooeaaGreatDoor

namespace Go.Proofs.YtcenmdiblbooeaaGreatDoor
open Go.RowKit

theorem OwnI.belowI {v : Value} {xs : List Int} {w w' : World} (h : OwnI v xs w) (hb : Below w.heap.size w w') : OwnI v xs w' := own_below h hb
theorem ownI_eq {v : Value} {xs ys : List Int} {w : World} (h : OwnI v xs w) (e : xs = ys) : OwnI v ys w := e ▸ h
theorem ownI_lim {A : Option Addr} {c : Nat} {xs ys : List Int} {w : World} (h : OwnI (.slice A xs.length c) xs w) (e : xs = ys) : OwnI (.slice A ys.length c) ys w := e ▸ h
theorem roundVS_eq {x y : SI} {w w' : World} {e : Ending} (hxy : x = y) (h : NewV (fun u => OwnS u x) w e w') : NewV (fun u => OwnS u y) w e w' := hxy ▸ h
theorem chg_set2 {r : Nat} {c0 c1 : Value} {W : World} : Chg [r] W ((W.setCell ⟨r, 0, none⟩ c0).setCell ⟨r, 1, none⟩ c1) := ((Chg.refl _ _).setCell (by simp) _).setCell (by simp) _
/-- a result that lies in its cells at block r: a new signed number, with a bool and without -/
theorem newSb_at {r B : Nat} {S : List Nat} {c0 c1 : Value} {x : SI} {b : Bool} {w W : World} (o : At S (OwnS (.agg #[c0, c1]) x) W) (l : Within S B W.heap.size) (hrB : r < B) (hr : w.heap.size ≤ r) (hW : Below w.heap.size w W) :
    PostSb x b w (.returned (.tuple #[.agg #[c0, c1], .bool b])) ((W.setCell ⟨r, 0, none⟩ c0).setCell ⟨r, 1, none⟩ c1) := by
  have hc : Chg [r] W ((W.setCell ⟨r, 0, none⟩ c0).setCell ⟨r, 1, none⟩ c1) := chg_set2
  have hz := hc.size
  exact ⟨_, S, rfl, o.chg hc (fun i hi hm => by have := l i hi; simp at hm; omega), fun i hi => by have := l i hi; omega, below_set2 hW hr⟩
theorem newS_at {r B : Nat} {S : List Nat} {c0 c1 : Value} {x : SI} {w W : World} (o : At S (OwnS (.agg #[c0, c1]) x) W) (l : Within S B W.heap.size) (hrB : r < B) (hr : w.heap.size ≤ r) (hW : Below w.heap.size w W) :
    NewV (fun v => OwnS v x) w (.returned (.agg #[c0, c1])) ((W.setCell ⟨r, 0, none⟩ c0).setCell ⟨r, 1, none⟩ c1) := by
  have hc : Chg [r] W ((W.setCell ⟨r, 0, none⟩ c0).setCell ⟨r, 1, none⟩ c1) := chg_set2
  have hz := hc.size
  exact ⟨_, S, rfl, o.chg hc (fun i hi hm => by have := l i hi; simp at hm; omega), fun i hi => by have := l i hi; omega, below_set2 hW hr⟩
theorem ownS_zero (w : World) : OwnS (.agg #[.bool false, .slice none 0 0]) zeroS w := ⟨_, rfl, World.ownsRow_nil _ _ _ _⟩
theorem newSb_zero {w W : World} (b : Bool) (hW : Below w.heap.size w W) : PostSb zeroS b w (.returned (.tuple #[.agg #[.bool false, .slice none 0 0], .bool b])) W :=
  ⟨_, [], rfl, ⟨ownS_zero _, fun _ hg => absurd hg List.not_mem_nil, fun w' _ => ownS_zero w'⟩, fun _ hg => absurd hg List.not_mem_nil, hW⟩
/-- quotient and rest -/
theorem quot_rest {r : QI} : (nval r.1.2 / nval r.2).toNat = (topN r / denQ r : Nat) ∨ ¬ okQ r = true := by
  by_cases h : okQ r = true
  · have p := parts_of h
    refine .inl ?_
    rw [p.n, p.d, limbs_val, limbs_val]
    exact div_toNat _ _
  · exact .inr h
theorem quot_of {r : QI} (h : okQ r = true) : (nval r.1.2 / nval r.2).toNat = topN r / denQ r := by
  have p := parts_of h
  rw [p.n, p.d, limbs_val, limbs_val]
  exact div_toNat _ _
theorem rest_of {r : QI} (h : okQ r = true) : (nval r.1.2 % nval r.2).toNat = topN r % denQ r := by
  have p := parts_of h
  rw [p.n, p.d, limbs_val, limbs_val, ← Int.natCast_emod]
  exact Int.toNat_natCast _
/-- sizes of quotient and rest -/
theorem quot_len {r : QI} (h : okQ r = true) : (limbs (topN r / denQ r)).length ≤ 18 := limbs_length_le _ 18 (by
  have p := (parts_of h).nlt
  have := Nat.div_le_self (topN r) (denQ r)
  omega)
theorem rest_len {r : QI} (h : okQ r = true) : (limbs (topN r % denQ r)).length ≤ 18 := limbs_length_le _ 18 (by
  have p := (parts_of h).dlt
  have := Nat.mod_lt (topN r) (denQ_pos h)
  omega)
theorem even_limbs {k : Nat} (h : (limbs k).length ≤ 50) : evenB (limbs k) = decide (k % 2 = 0) := by
  unfold evenB
  rw [limbs_okL _ h, Bool.true_and]
  have e : (limbs k).headD 0 % 2 = ((k % 2 : Nat) : Int) := by
    by_cases h : k = 0
    · subst h; rw [limbs, dif_pos rfl]; rfl
    · rw [limbs, dif_neg h]
      show ((k % 1000000000 : Nat) : Int) % 2 = _
      omega
  rw [e, decide_eq_decide]
  omega
theorem round_plain {r : QI} {m : Int} (h : topN r % denQ r = 0 ∨ awayB r.1.1 (topN r / denQ r) (topN r % denQ r) (denQ r) m = false) : mkS r.1.1 (limbs (topN r / denQ r)) = roundS r m := by
  unfold roundS roundN
  rw [if_neg (fun e => by rcases h with h | h; exact e.1 h; rw [h] at e; exact absurd e.2 (by decide)), Nat.add_zero]
theorem round_more {r : QI} {m : Int} (h : topN r % denQ r ≠ 0) (ha : awayB r.1.1 (topN r / denQ r) (topN r % denQ r) (denQ r) m = true) : mkS r.1.1 (limbs (topN r / denQ r + 1)) = roundS r m := by
  unfold roundS roundN
  rw [if_pos ⟨h, ha⟩]
theorem one_more (Q : Nat) : trimL (addL (limbs Q) [1] 0) = limbs (Q + 1) := by
  have h := addL_val (limbs Q) [1] 0 (limbs_digN Q) (by rw [← one_limbs]; exact limbs_digN 1) (by omega) (by omega)
  rw [trim_limbs _ h.2.1, h.1, limbs_val]
  have : nval [1] = 1 := rfl
  rw [this, show ((Q : Int) + 1 + 0).toNat = Q + 1 by omega]
theorem twice_len {R : Nat} (h : (limbs R).length ≤ 18) : (addL (limbs R) (limbs R) 0).length ≤ 40 ∧ DigN (addL (limbs R) (limbs R) 0) ∧ (addL (limbs R) (limbs R) 0).getLastD 1 ≠ 0 ∧ nval (addL (limbs R) (limbs R) 0) = (R : Int) + R + 0 := by
  have hs := addL_val (limbs R) (limbs R) 0 (limbs_digN R) (limbs_digN R) (by omega) (by omega)
  rw [limbs_val] at hs
  exact ⟨by omega, hs.2.1, addL_last _ _ _ (limbs_digN R) (limbs_digN R) (by omega) (by omega) (limbs_lastN R) (limbs_lastN R), hs.1⟩
theorem awayB_0 (neg : Bool) (Q R D : Nat) : awayB neg Q R D 0 = false := rfl
theorem awayB_1 (neg : Bool) (Q R D : Nat) : awayB neg Q R D 1 = true := rfl
theorem awayB_2 (neg : Bool) (Q R D : Nat) : awayB neg Q R D 2 = neg := rfl
theorem awayB_3 (neg : Bool) (Q R D : Nat) : awayB neg Q R D 3 = !neg := rfl
theorem awayB_4 (neg : Bool) (Q R D : Nat) : awayB neg Q R D 4 = decide (D < 2 * R) := rfl
theorem awayB_5 (neg : Bool) (Q R D : Nat) : awayB neg Q R D 5 = decide (D ≤ 2 * R) := rfl
theorem awayB_6 (neg : Bool) (Q R D : Nat) : awayB neg Q R D 6 = (decide (D < 2 * R) || (decide (2 * R = D) && decide (Q % 2 = 1))) := rfl
/-- the modes that look at the half, by how twice the rest compares with the denominator -/
theorem away_cmp (neg : Bool) (Q R D : Nat) {c : Int} (h : cmpI ((R : Int) + R + 0) D = c) : awayB neg Q R D 4 = decide (0 < c) ∧ awayB neg Q R D 5 = decide (0 ≤ c) ∧ awayB neg Q R D 6 = (decide (0 < c) || (decide (c = 0) && decide (Q % 2 = 1))) := by
  have t := twice_cmp R D
  rw [h] at t
  rw [awayB_4, awayB_5, awayB_6, decide_eq_decide.2 t.1, decide_eq_decide.2 t.2.1, decide_eq_decide.2 t.2.2]
  exact ⟨rfl, rfl, rfl⟩
theorem cmp_three (x y : Int) : cmpI x y = -1 ∨ cmpI x y = 0 ∨ cmpI x y = 1 := by unfold cmpI; split; exact .inl rfl; split; exact .inr (.inr rfl); exact .inr (.inl rfl)
theorem den_cmp {r : QI} {n : Int} (ok : okQ r = true) : decide ((denQ r : Int) = n) = (cmpI (nval r.2) n == 0) := by
  have e : nval r.2 = (denQ r : Int) := by
    have p := (parts_of ok).d
    unfold denQ
    rw [p, limbs_val, Int.toNat_natCast]
  rw [e, Bool.eq_iff_iff, decide_eq_true_eq, beq_iff_eq]
  unfold cmpI
  split
  · omega
  · split <;> omega
theorem wholeB_cmp {r : QI} (ok : okQ r = true) : wholeB r = (cmpI (nval r.2) (nval [1]) == 0) := by
  rw [← den_cmp ok]
  unfold wholeB
  rw [ok, Bool.true_and, decide_eq_decide]
  show _ ↔ (denQ r : Int) = 1
  omega
theorem halfB_cmp {r : QI} (ok : okQ r = true) : halfB r = (cmpI (nval r.2) (nval [2]) == 0) := by
  rw [← den_cmp ok]
  unfold halfB
  rw [ok, Bool.true_and, decide_eq_decide]
  show _ ↔ (denQ r : Int) = 2
  omega
theorem dig_1 : DigN [1] := by rw [← one_limbs]; exact limbs_digN 1
theorem two_limbs : limbs 2 = [2] := by rw [limbs, dif_neg (by decide), limbs, dif_pos (by decide)]; rfl
theorem dig_2 : DigN [2] := by rw [← two_limbs]; exact limbs_digN 2
theorem limbs_none_iff {n : Nat} : (limbs n).length = 0 ↔ n = 0 := limbs_zero_iff n
end Go.Proofs.YtcenmdiblbooeaaGreatDoor

namespace Go.Proofs.YtcenmdiblbooeaaGreatDoor
open Go.RowKit

theorem round_lt18 {r : QI} (h : okQ r = true) (m : Int) : (roundN r.1.1 (topN r) (denQ r) m : Int) < bp 18 := by
  have p := parts_of h
  have hn := p.nlt
  have hd := denQ_pos h
  have c := roundN_cases r.1.1 (topN r) (denQ r) m
  have b1 : bp 1 = 1000000000 := rfl
  have b18 : bp 1 ≤ bp 18 := bp_mono (by omega)
  by_cases h1 : denQ r = 1
  · rw [h1] at c ⊢
    rw [Nat.mod_one, Nat.div_one] at c
    omega
  · have h2 : topN r / denQ r ≤ topN r / 2 := Nat.div_le_div_left (by omega) (by omega)
    have h3 := roundN_le r.1.1 (topN r) (denQ r) m
    omega
/-- the rounded number as a fraction, and the rest -/
theorem rest_parts {r : QI} (h : okQ r = true) (m : Int) : (makeQ (roundS r m) (ofZ 1)).2 = true ∧ (subQ r (makeQ (roundS r m) (ofZ 1)).1).2 = true := by
  have p := parts_of h
  have okx := roundS_ok r m
  have h18 := round_lt18 h m
  have hv := roundS_val p m
  have hab : ((valS (roundS r m)).natAbs : Int) < bp 18 := by
    have : (valS (roundS r m)).natAbs = roundN r.1.1 (topN r) (denQ r) m := by rw [hv]; split <;> omega
    omega
  obtain ⟨b1, b2, b3⟩ := int_bd okx (m := 18) (by omega) (by omega) hab
  refine ⟨b1, ?_⟩
  obtain ⟨e, e1, e2, e3, _, _⟩ := round_val h m
  generalize roundS r m = X at *
  generalize (makeQ X (ofZ 1)).1 = Y at *
  have py := b2.pos
  have pr : (0 : Int) < denQ r := by have := denQ_pos h; omega
  have hY : numQ Y = valS X * denQ Y := by
    have n1 := rat_ne py
    unfold ratV at b3
    have : (numQ Y : Rat) = ((valS X : Int) : Rat) * ((denQ Y : Int) : Rat) := by grind
    exact_mod_cast this
  obtain ⟨n1, n2, n3⟩ := neg_bd b2
  have en := negQ_is b2.ok
  have hN : numQ (negQ Y).1 = - numQ Y := by rw [en]; exact negS_val (okQ_parts b2.ok).1
  have hD : denQ (negQ Y).1 = denQ Y := by rw [en]; rfl
  have h1 : denQ Y = 1 := by
    have hg : Nat.gcd (topN Y) (denQ Y) = 1 := (okQ_parts b2.ok).2.2.2.2.2
    have ht : topN Y = (valS X).natAbs * denQ Y := by rw [abs_top b2.ok, hY, Int.natAbs_mul, Int.natAbs_natCast]
    rw [ht, Nat.gcd_mul_left_left] at hg
    exact hg
  have es : subQ r Y = lowQ (decide (numQ r * denQ (negQ Y).1 + numQ (negQ Y).1 * denQ r < 0)) (numQ r * denQ (negQ Y).1 + numQ (negQ Y).1 * denQ r).natAbs (denQ r * denQ (negQ Y).1) := by
    unfold subQ
    rw [if_pos n1]
    unfold addQ
    rw [if_pos ⟨h, n2.ok⟩]
  rw [es, hN, hD, hY, h1]
  have hnum : (numQ r * ((1 : Nat) : Int) + -(valS X * ((1 : Nat) : Int)) * denQ r).natAbs < denQ r := by
    have : numQ r * ((1 : Nat) : Int) + -(valS X * ((1 : Nat) : Int)) * denQ r = -e := by
      have : -(valS X * ((1 : Nat) : Int)) * (denQ r : Int) = -(valS X * (denQ r : Int)) := by rw [Int.natCast_one, Int.mul_one, Int.neg_mul]
      rw [this, e1]
      omega
    rw [this]
    omega
  exact (low_is _ _ _ (by omega) (by have := p.dlt; omega) (by rw [Nat.mul_one]; exact p.dlt)).1
theorem rest_all {r : QI} {m : Int} (h : okQ r = true) (hm : modeB m = true) : roundR r m = (roundS r m, true) ∧ restB r m = true ∧ restS r m = roundS r m ∧ restQ r m = (subQ r (makeQ (roundS r m) (ofZ 1)).1).1 := by
  have e : roundR r m = (roundS r m, true) := by unfold roundR; rw [if_pos ⟨h, hm⟩]
  have b := rest_parts h m
  have eb : restB r m = true := by unfold restB; rw [e]; simp only; rw [b.1, b.2]; rfl
  refine ⟨e, eb, ?_, ?_⟩
  · unfold restS; rw [if_pos eb, e]
  · unfold restQ; rw [if_pos eb, e]
theorem rest_none {r : QI} {m : Int} (h : ¬ (okQ r = true ∧ modeB m = true)) : roundR r m = (zeroS, false) ∧ restB r m = false ∧ restS r m = zeroS ∧ restQ r m = zeroQ := by
  have e : roundR r m = (zeroS, false) := by unfold roundR; rw [if_neg h]
  have eb : restB r m = false := by unfold restB; rw [e]; rfl
  refine ⟨e, eb, ?_, ?_⟩
  · unfold restS; rw [if_neg (by rw [eb]; decide)]
  · unfold restQ; rw [if_neg (by rw [eb]; decide)]
theorem makeQ_szQ (x y : SI) : szQ (makeQ x y).1 ≤ 1048576 := by unfold makeQ; split; exact lowQ_sz _ _ _; decide
theorem subQ_szQ (x y : QI) : szQ (subQ x y).1 ≤ 1048576 := by unfold subQ; split; (unfold addQ; split; exact lowQ_sz _ _ _; decide); decide
theorem postSb_is {q : SI × Bool} {X : SI} {b : Bool} (e : q = (X, b)) {w w' : World} {n : Ending} (h : PostSb q.1 q.2 w n w') : PostSb X b w n w' := by rw [e] at h; exact h
theorem postQb_is {q : QI × Bool} {X : QI} {b : Bool} (e : q = (X, b)) {w w' : World} {n : Ending} (h : PostQb q.1 q.2 w n w') : PostQb X b w n w' := by rw [e] at h; exact h
theorem newSQb_zero {w W : World} (hW : Below w.heap.size w W) : PostSQb zeroS zeroQ false w (.returned (.tuple #[.agg #[.bool false, .slice none 0 0], .agg #[.bool false, .slice none 0 0, .slice none 0 0], .bool false])) W :=
  ⟨_, _, [], [], rfl, ⟨ownS_zero _, fun _ hg => absurd hg List.not_mem_nil, fun w' _ => ownS_zero w'⟩, ⟨ownQ_zero _, fun _ hg => absurd hg List.not_mem_nil, fun w' _ => ownQ_zero w'⟩, fun _ hg => absurd hg List.not_mem_nil, fun _ hg => absurd hg List.not_mem_nil, fun _ hg => absurd hg List.not_mem_nil, hW⟩
/-- a signed number in block r and a fraction in block p, in whatever order they were stored -/
theorem newSQb_at {r p B C : Nat} {S T : List Nat} {c0 c1 d0 d1 d2 : Value} {x : SI} {y : QI} {b : Bool} {w W : World} (o : At S (OwnS (.agg #[c0, c1]) x) W) (q : At T (OwnQ (.agg #[d0, d1, d2]) y) W)
    (l : Within S B W.heap.size) (k : Within T C W.heap.size) (hap : ∀ g ∈ S, g ∉ T) (hB : p < B) (hC : p < C) (hrp : r < p) (hr : w.heap.size ≤ r) (hp : w.heap.size ≤ p) (hW : Below w.heap.size w W) :
    ∀ W', Chg [r, p] W W' → PostSQb x y b w (.returned (.tuple #[.agg #[c0, c1], .agg #[d0, d1, d2], .bool b])) W' := by
  intro W' hc
  have hz := hc.size
  refine ⟨_, _, S, T, rfl, o.chg hc (fun i hi hm => ?_), q.chg hc (fun i hi hm => ?_), hap, fun i hi => ?_, fun i hi => ?_, below_chg hW hc hW.size (fun i hi => ?_)⟩
  · have := l i hi; simp at hm; omega
  · have := k i hi; simp at hm; omega
  · have := l i hi; omega
  · have := k i hi; omega
  · simp at hi; omega
end Go.Proofs.YtcenmdiblbooeaaGreatDoor

namespace Go.Proofs.YtcenmdiblbooeaaGreatDoor
open Go.RowKit

def rmB (cu : ByteArray) (r : QI) (m : Int) : Bool := restB r m && okM (cu, restS r m)
def rmM (cu : ByteArray) (r : QI) (m : Int) : MI := if rmB cu r m = true then (cu, restS r m) else zeroM
def rmQ (cu : ByteArray) (r : QI) (m : Int) : QI := if rmB cu r m = true then restQ r m else zeroQ
theorem rm_good {cu : ByteArray} {r : QI} {m : Int} (h1 : restB r m = true) (h2 : (makeM cu (restS r m)).2 = true) : rmM cu r m = (makeM cu (restS r m)).1 ∧ rmQ cu r m = restQ r m ∧ rmB cu r m = true := by
  unfold makeM at h2 ⊢
  split at h2
  · rename_i hk
    have hb : rmB cu r m = true := by unfold rmB; rw [h1, hk]; rfl
    unfold rmM rmQ
    rw [if_pos hb, if_pos hb, if_pos hk]
    exact ⟨rfl, rfl, hb⟩
  · cases h2
theorem rm_bad {cu : ByteArray} {r : QI} {m : Int} (h : restB r m = false ∨ (makeM cu (restS r m)).2 = false) : rmM cu r m = zeroM ∧ rmQ cu r m = zeroQ ∧ rmB cu r m = false := by
  have hb : rmB cu r m = false := by
    unfold rmB
    rcases h with h | h
    · rw [h]; rfl
    · unfold makeM at h
      split at h
      · cases h
      · rename_i hk
        rw [show okM (cu, restS r m) = false by simpa using hk, Bool.and_false]
  unfold rmM rmQ
  rw [hb]
  exact ⟨rfl, rfl, rfl⟩
theorem rm_sz (cu : ByteArray) (r : QI) (m : Int) (hq : szQ (restQ r m) ≤ 1048576) : szM (rmM cu r m) ≤ 1048576 ∧ szQ (rmQ cu r m) ≤ 1048576 := by
  unfold rmM rmQ
  by_cases h : rmB cu r m = true
  · rw [if_pos h, if_pos h]
    refine ⟨?_, hq⟩
    have hk : okM (cu, restS r m) = true := by
      unfold rmB at h
      rw [Bool.and_eq_true] at h
      exact h.2
    have h4 := (okM_parts hk).2.2
    have h3 := okM_size hk
    dsimp only at h3 h4
    unfold szM szS szI
    dsimp only
    omega
  · rw [if_neg h, if_neg h]
    exact ⟨by decide, by decide⟩
theorem restS_len (r : QI) (m : Int) : (restS r m).2.length ≤ 1048576 := by
  have h : szS (restS r m) ≤ 1048576 := by unfold restS; split; exact roundR_sz r m; decide
  unfold szS szI at h
  omega
theorem postSQb_isM {x x' : SI} {y y' : QI} {b b' : Bool} (e1 : x = x') (e2 : y = y') (e3 : b = b') {w w' : World} {e : Ending} (h : PostSQb x y b w e w') : PostSQb x' y' b' w e w' := by subst e1 e2 e3; exact h
def PostMQb (R0 : MI) (R1 : QI) (R2 : Bool) (w : World) (e : Ending) (w' : World) : Prop :=
  ∃ (v u : Value) (S T : List Nat), e = .returned (.tuple #[v, u, .bool R2]) ∧ At S (OwnM v R0) w' ∧ At T (OwnQ u R1) w' ∧ (∀ g ∈ S, g ∉ T) ∧ Within S w.heap.size w'.heap.size ∧ Within T w.heap.size w'.heap.size ∧ Below w.heap.size w w'
theorem newMQb_zero {w W : World} (hW : Below w.heap.size w W) : PostMQb zeroM zeroQ false w (.returned (.tuple #[.agg #[.string ⟨#[]⟩, .bool false, .slice none 0 0], .agg #[.bool false, .slice none 0 0, .slice none 0 0], .bool false])) W :=
  ⟨_, _, [], [], rfl, atM_zero _, ⟨⟨_, _, rfl, World.ownsRow_nil _ _ _ _, World.ownsRow_nil _ _ _ _, fun g hg => by cases hg⟩, fun _ hg => absurd hg List.not_mem_nil, fun w' _ => ⟨_, _, rfl, World.ownsRow_nil _ _ _ _, World.ownsRow_nil _ _ _ _, fun g hg => by cases hg⟩⟩, fun _ hg => absurd hg List.not_mem_nil, fun _ hg => absurd hg List.not_mem_nil, fun _ hg => absurd hg List.not_mem_nil, hW⟩
theorem newMQb_at {r p B C : Nat} {S T : List Nat} {c0 c1 c2 d0 d1 d2 : Value} {x : MI} {y : QI} {b : Bool} {w W : World} (o : At S (OwnM (.agg #[c0, c1, c2]) x) W) (q : At T (OwnQ (.agg #[d0, d1, d2]) y) W)
    (l : Within S B W.heap.size) (k : Within T C W.heap.size) (hap : ∀ g ∈ S, g ∉ T) (hB : p < B) (hC : p < C) (hrp : r < p) (hr : w.heap.size ≤ r) (hp : w.heap.size ≤ p) (hW : Below w.heap.size w W) :
    ∀ W', Chg [r, p] W W' → PostMQb x y b w (.returned (.tuple #[.agg #[c0, c1, c2], .agg #[d0, d1, d2], .bool b])) W' := by
  intro W' hc
  have hz := hc.size
  refine ⟨_, _, S, T, rfl, o.chg hc (fun i hi hm => ?_), q.chg hc (fun i hi hm => ?_), hap, fun i hi => ?_, fun i hi => ?_, below_chg hW hc hW.size (fun i hi => ?_)⟩
  · have := l i hi; simp at hm; omega
  · have := k i hi; simp at hm; omega
  · have := l i hi; omega
  · have := k i hi; omega
  · simp at hi; omega
end Go.Proofs.YtcenmdiblbooeaaGreatDoor

namespace Go.Proofs.YtcenmdiblbooeaaGreatDoor
open Go.RowKit

/-- two new locals of struct types: their boxes, and the memory that they lead to, all apart -/
def NewLoc2 (T U : TypeId) (φ ψ : Value → World → Prop) (W0 : World) (s t : Value) (W : World) : Prop :=
  ∃ (g h : Nat) (cs ds : Array Value) (S D : List Nat), s = .pointer (some ⟨g, 0, none⟩) ∧ t = .pointer (some ⟨h, 0, none⟩) ∧ At [g] (BoxAt g cs T) W ∧ At [h] (BoxAt h ds U) W ∧ At S (φ (.agg cs)) W ∧ At D (ψ (.agg ds)) W ∧
    (∀ i ∈ g :: S, i ∉ h :: D) ∧ g ∉ S ∧ h ∉ D ∧ Within (g :: S) W0.heap.size W.heap.size ∧ Within (h :: D) W0.heap.size W.heap.size ∧ Below W0.heap.size W0 W
theorem newLoc2_last {T U : TypeId} {φ ψ : Value → World → Prop} {W0 W W1 : World} {cs ds : Array Value} {S D : List Nat} (o : At S (φ (.agg cs)) W) (q : At D (ψ (.agg ds)) W) (hap : ∀ i ∈ S, i ∉ D) (l : Within S W1.heap.size W.heap.size) (k : Within D W1.heap.size W.heap.size) (hB : W0.heap.size ≤ W1.heap.size) (hW : Below W0.heap.size W0 W) :
    NewLoc2 T U φ ψ W0 (.pointer (some ⟨W.heap.size, 0, none⟩)) (.pointer (some ⟨W.heap.size + 1, 0, none⟩)) ((W.alloc (.cells cs T)).alloc (.cells ds U)) := by
  have a1 := below_al (Below.refl W.heap.size W) (.cells cs T)
  have a2 := below_al (Below.refl (W.alloc (.cells cs T)).heap.size (W.alloc (.cells cs T))) (.cells ds U)
  have hz1 : (W.alloc (.cells cs T)).heap.size = W.heap.size + 1 := by simp
  have hz2 : ((W.alloc (.cells cs T)).alloc (.cells ds U)).heap.size = W.heap.size + 1 + 1 := by simp
  have kb := box_new (W.alloc (.cells cs T)) ds U
  rw [hz1] at kb
  have hw := hW.size
  refine ⟨W.heap.size, W.heap.size + 1, cs, ds, S, D, rfl, rfl, (box_new W cs T).below a2, kb, (o.below a1).below a2, (q.below a1).below a2, fun i hi hm => ?_, fun h => by have := l _ h; omega, fun h => by have := k _ h; omega, fun i hi => ?_, fun i hi => ?_, Below.next (Below.next hW a1) a2⟩
  · rcases List.mem_cons.1 hi with rfl | hi <;> rcases List.mem_cons.1 hm with h | hm
    · omega
    · have := k _ hm; omega
    · have := l _ hi; omega
    · exact hap i hi hm
  · rcases List.mem_cons.1 hi with rfl | hi
    · omega
    · have := l i hi; omega
  · rcases List.mem_cons.1 hi with rfl | hi
    · omega
    · have := k i hi; omega
set_option maxHeartbeats 4000000 in
set_option maxRecDepth 100000 in
theorem lawRatMoney_walk (cu : ByteArray) (va : Value) (a : QI) (m : Int) (R0 : MI) (R1 : QI) (R2 : Bool) (w : World)
    (hS : ∀ (ua : Value) (W : World), OwnQ ua a W → Calls Tryz.prog 23 #[.string cu, ua, .int .i64 m] W (PostMQb R0 R1 R2 W))
    (hI : ∀ (ua : Value) (W : World), OwnQ ua a W → CurTab W → Sen W → Calls Tryz.prog 25 #[.string cu, ua, .int .i64 m] W (PostMQb R0 R1 R2 W))
    (hcu : cu.size ≤ 1048576) (htc : CurTab w) (ht0 : Sen w) (hl : szQ a ≤ 1048576) (hlR0 : szM R0 ≤ 1048576) (hlR1 : szQ R1 ≤ 1048576) (ra : RdQ w va a) :
    Calls Tryz.prog 5 #[.string cu, va, .int .i64 m] w fun e w' => e = .returned (.bool true) ∧ Below w.heap.size w w' := by
  have HS := Lib.hid hS
  have HI := Lib.hid hI
  clear hS hI
  have HT0 := Lib.hid ht0
  have HTC := Lib.hid htc
  clear ht0 htc
  have hsa := szQ_nonneg a
  have hsR0 := szM_nonneg R0
  have hmR0 := mkM_range R0
  have hsR1 := szQ_nonneg R1
  have hza : szQ a ≤ 1048576 := by omega
  obtain ⟨Aa, ca, Ba, da, rfl⟩ := rdQ_form ra
  have bb0 : Below w.heap.size w (w.alloc (.cells #[.bool a.1.1, .slice Aa a.1.2.length ca, .slice Ba a.2.length da] 48)) := below_al (Below.refl _ _) _
  have ka := (box_new w #[.bool a.1.1, .slice Aa a.1.2.length ca, .slice Ba a.2.length da] 48)
  have RFa : Hid (∀ W, Below w.heap.size w W → RdQ W (.agg #[.bool a.1.1, .slice Aa a.1.2.length ca, .slice Ba a.2.length da]) a) := Lib.hid fun W hb => ra.below hb
  go_enter Tryz.func5, Tryz.ntmps5
  have ka_c0 := ka.here.cell 0 _ rfl
  have ka_c1 := ka.here.cell 1 _ rfl
  have ka_c2 := ka.here.cell 2 _ rfl
  go_wp2_with fail
  clear ka_c0 ka_c1 ka_c2
  refine (szQ_cal _ a (1048576) _ (capQ_of hza) (by omega) (by omega) (RFa.out _ bb0)).mono ?_
  rintro e w1 ⟨rfl, b1⟩
  rw [leftI_of (by omega)]
  have bb1 := Below.next bb0 b1
  replace ka := ka.below b1
  have hn : decide ((1048576 : Int) - szQ a < 0) = false := decide_eq_false (by omega)
  have HKa := Lib.hid (ka.lt (w.heap.size) (by simp))
  have ka_c0 := ka.here.cell 0 _ rfl
  have ka_c1 := ka.here.cell 1 _ rfl
  have ka_c2 := ka.here.cell 2 _ rfl
  go_upto_region 7 with fail
  go_cut [8, 9, 10] (fun s t c wx => NewLoc2 27 51 (fun v => OwnM v R0) (fun v => OwnQ v R1) w1 s t wx ∧ c = .bool R2)
  case first =>
    go_wp2_with fail
    refine (toQ_new _ a _ hza (RFa.out _ bb1)).mono ?_
    rintro e wt ⟨ut, St, rfl, ot, lt, bt⟩
    obtain ⟨At, ct, Bt, dt, rfl⟩ := ownQ_form ot.here
    go_wp2_with fail
    refine (HS.out _ _ ot.here).mono ?_
    rintro e wf ⟨uf, vf, Sf, Df, rfl, of, pf, hapf, lf, kf, bf⟩
    obtain ⟨Af, cf, rfl⟩ := ownM_form of.here
    obtain ⟨Ah, ch, Bh, dh, rfl⟩ := ownQ_form pf.here
    have bwf := Below.next bt bf
    go_wp2_with fail
    go_meet
    exact ⟨newLoc2_last of pf hapf lf kf bt.size bwf, rfl⟩
  rename World => w2
  clear ka_c0 ka_c1 ka_c2
  obtain ⟨⟨gw0, gw1, csw0, csw1, Sw0, Sw1, rfl, rfl, kw0, kw1, ow0, ow1, apw, nw0, nw1, lw0, lw1, b2⟩, rfl⟩ := hcut
  obtain ⟨Aw0, cw0, ew0⟩ := ownM_form ow0.here
  injection ew0 with ew0
  subst ew0
  obtain ⟨Aw1, cw1, Bw1, dw1, ew1⟩ := ownQ_form ow1.here
  injection ew1 with ew1
  subst ew1
  have HAPw := Lib.hid apw
  clear apw
  have bb2 := Below.next bb1 b2
  replace ka := ka.below b2
  have ka_c0 := ka.here.cell 0 _ rfl
  have ka_c1 := ka.here.cell 1 _ rfl
  have ka_c2 := ka.here.cell 2 _ rfl
  go_upto_region 8 with fail
  go_cut [11] (fun s wx => NewLocV 51 (fun v => OwnQ v a) w2 s wx)
  case first =>
    go_wp2_with fail
    refine (toQ_new _ a _ hza (RFa.out _ bb2)).mono ?_
    rintro e wt ⟨ut, St, rfl, ot, lt, bt⟩
    obtain ⟨At, ct, Bt, dt, rfl⟩ := ownQ_form ot.here
    go_wp2_with fail
    go_meet
    exact newLocV_last ot lt (Nat.le_refl _) bt
  rename World => w3
  clear ka_c0 ka_c1 ka_c2
  obtain ⟨gxa, csxa, Sxa, rfl, kxa, oxa, nxa, lxa, b3⟩ := hcut
  obtain ⟨Axa, cxa, Bxa, dxa, exa⟩ := ownQ_form oxa.here
  injection exa with exa
  subst exa
  have bb3 := Below.next bb2 b3
  replace ka := ka.below b3
  replace kw0 := kw0.below b3
  replace ow0 := ow0.below b3
  replace kw1 := kw1.below b3
  replace ow1 := ow1.below b3
  have kxa_c0 := kxa.here.cell 0 _ rfl
  have kxa_c1 := kxa.here.cell 1 _ rfl
  have kxa_c2 := kxa.here.cell 2 _ rfl
  go_upto_region 9 with fail
  go_cut [12, 13, 14] (fun s t c wx => NewLoc2 27 51 (fun v => OwnM v R0) (fun v => OwnQ v R1) w3 s t wx ∧ c = .bool R2)
  case first =>
    go_wp2_with fail
    refine (HI.out _ _ oxa.here (HTC.out.below bb3) (HT0.out.below bb3)).mono ?_
    rintro e wf ⟨uf, vf, Sf, Df, rfl, of, pf, hapf, lf, kf, bf⟩
    obtain ⟨Af, cf, rfl⟩ := ownM_form of.here
    obtain ⟨Ah, ch, Bh, dh, rfl⟩ := ownQ_form pf.here
    go_wp2_with fail
    go_meet
    exact ⟨newLoc2_last of pf hapf lf kf (Nat.le_refl _) bf, rfl⟩
  rename World => w4
  clear kxa_c0 kxa_c1 kxa_c2
  obtain ⟨⟨gg0, gg1, csg0, csg1, Sg0, Sg1, rfl, rfl, kg0, kg1, og0, og1, apg, ng0, ng1, lg0, lg1, b4⟩, rfl⟩ := hcut
  obtain ⟨Ag0, cg0, eg0⟩ := ownM_form og0.here
  injection eg0 with eg0
  subst eg0
  obtain ⟨Ag1, cg1, Bg1, dg1, eg1⟩ := ownQ_form og1.here
  injection eg1 with eg1
  subst eg1
  have HAPg := Lib.hid apg
  clear apg
  have bb4 := Below.next bb3 b4
  replace ka := ka.below b4
  replace kw0 := kw0.below b4
  replace ow0 := ow0.below b4
  replace kw1 := kw1.below b4
  replace ow1 := ow1.below b4
  replace kxa := kxa.below b4
  replace oxa := oxa.below b4
  have kg0_c0 := kg0.here.cell 0 _ rfl
  have kg0_c1 := kg0.here.cell 1 _ rfl
  have kg0_c2 := kg0.here.cell 2 _ rfl
  have kw0_c0 := kw0.here.cell 0 _ rfl
  have kw0_c1 := kw0.here.cell 1 _ rfl
  have kw0_c2 := kw0.here.cell 2 _ rfl
  go_wp2_with fail
  clear kg0_c0 kg0_c1 kg0_c2 kw0_c0 kw0_c1 kw0_c2
  refine (eqM_cal _ _ R0 R0 _ (capM_of (by omega)) (OwnM.rd og0.here) (OwnM.rd ow0.here)).mono ?_
  rintro e w5 ⟨rfl, b5⟩
  rw [decide_refl]
  have bb5 := Below.next bb4 b5
  replace ka := ka.below b5
  replace kw0 := kw0.below b5
  replace ow0 := ow0.below b5
  replace kw1 := kw1.below b5
  replace ow1 := ow1.below b5
  replace kxa := kxa.below b5
  replace oxa := oxa.below b5
  replace kg0 := kg0.below b5
  replace og0 := og0.below b5
  replace kg1 := kg1.below b5
  replace og1 := og1.below b5
  have kg1_c0 := kg1.here.cell 0 _ rfl
  have kg1_c1 := kg1.here.cell 1 _ rfl
  have kg1_c2 := kg1.here.cell 2 _ rfl
  have kw1_c0 := kw1.here.cell 0 _ rfl
  have kw1_c1 := kw1.here.cell 1 _ rfl
  have kw1_c2 := kw1.here.cell 2 _ rfl
  go_wp2_with fail
  clear kg1_c0 kg1_c1 kg1_c2 kw1_c0 kw1_c1 kw1_c2
  refine (eqQ_cal _ _ R1 R1 _ (capQ_of (by omega)) (OwnQ.rd og1.here) (OwnQ.rd ow1.here)).mono ?_
  rintro e w6 ⟨rfl, b6⟩
  rw [decide_refl]
  have bb6 := Below.next bb5 b6
  replace ka := ka.below b6
  replace kw0 := kw0.below b6
  replace ow0 := ow0.below b6
  replace kw1 := kw1.below b6
  replace ow1 := ow1.below b6
  replace kxa := kxa.below b6
  replace oxa := oxa.below b6
  replace kg0 := kg0.below b6
  replace og0 := og0.below b6
  replace kg1 := kg1.below b6
  replace og1 := og1.below b6
  have ka_c0 := ka.here.cell 0 _ rfl
  have ka_c1 := ka.here.cell 1 _ rfl
  have ka_c2 := ka.here.cell 2 _ rfl
  have kxa_c0 := kxa.here.cell 0 _ rfl
  have kxa_c1 := kxa.here.cell 1 _ rfl
  have kxa_c2 := kxa.here.cell 2 _ rfl
  go_wp2_with fail
  have HB0 := Lib.hid (show Below w6.heap.size w6 w6.drew from (Below.refl _ _).drew)
  have KL := Lib.hid (show ∀ W, Below w6.heap.size w6 W → W.cell? ⟨w.heap.size, 0, none⟩ = some (.bool a.1.1) ∧ W.cell? ⟨w.heap.size, 1, none⟩ = some (.slice Aa a.1.2.length ca) ∧ W.cell? ⟨w.heap.size, 2, none⟩ = some (.slice Ba a.2.length da) ∧ W.cell? ⟨gxa, 0, none⟩ = some (.bool a.1.1) ∧ W.cell? ⟨gxa, 1, none⟩ = some (.slice Axa a.1.2.length cxa) ∧ W.cell? ⟨gxa, 2, none⟩ = some (.slice Bxa a.2.length dxa) ∧ Hid (Below w6.heap.size w6 W) from
    fun W hb => ⟨(ka.below hb).here.cell 0 _ rfl, (ka.below hb).here.cell 1 _ rfl, (ka.below hb).here.cell 2 _ rfl, (kxa.below hb).here.cell 0 _ rfl, (kxa.below hb).here.cell 1 _ rfl, (kxa.below hb).here.cell 2 _ rfl, Lib.hid hb⟩)
  have BBF := Lib.hid (show ∀ W, Below w6.heap.size w6 W → Below w.heap.size w W from fun W hb => Below.next bb6 hb)
  have OXF := Lib.hid (show ∀ W, Below w6.heap.size w6 W → OwnQ (.agg #[.bool a.1.1, .slice Axa a.1.2.length cxa, .slice Bxa a.2.length dxa]) a W from fun W hb => (oxa.below hb).here)
  clear ka_c0 ka_c1 ka_c2 kxa_c0 kxa_c1 kxa_c2
  go_region_held3 (fun W => W.cell? ⟨w.heap.size, 0, none⟩ = some (.bool a.1.1) ∧ W.cell? ⟨w.heap.size, 1, none⟩ = some (.slice Aa a.1.2.length ca) ∧ W.cell? ⟨w.heap.size, 2, none⟩ = some (.slice Ba a.2.length da) ∧ W.cell? ⟨gxa, 0, none⟩ = some (.bool a.1.1) ∧ W.cell? ⟨gxa, 1, none⟩ = some (.slice Axa a.1.2.length cxa) ∧ W.cell? ⟨gxa, 2, none⟩ = some (.slice Bxa a.2.length dxa) ∧ Hid (Below w6.heap.size w6 W))
    ((refine KL.out _ ?_; (first | exact HBe.out | exact HBt.out | exact HB0.out | fail)))
    (first
      | (go_at_call 24; (have hBB := (‹_ ∧ _ ∧ _ ∧ _ ∧ _ ∧ _ ∧ Hid (Below w6.heap.size w6 _)›).2.2.2.2.2.2); (with_reducible refine (toQ_new _ a _ hza (RFa.out _ (BBF.out _ hBB.out))).mono ?_); rintro e wt ⟨t, St, rfl, ot, lt, bt⟩; have HBt := Lib.hid (Below.next hBB.out bt); clear hBB)
      | (go_at_call 26; (have hBB := (‹_ ∧ _ ∧ _ ∧ _ ∧ _ ∧ _ ∧ Hid (Below w6.heap.size w6 _)›).2.2.2.2.2.2); (with_reducible refine (eqQ_cal _ _ a a _ (capQ_of hza) (OwnQ.rd (OXF.out _ hBB.out)) (OwnQ.rd ot.here)).mono ?_); rintro e w7 ⟨rfl, be⟩; rw [decide_refl]; have HBe := Lib.hid (Below.next hBB.out be); clear hBB))
  have b7 := HBe.out
  have bb7 := Below.next bb6 b7
  replace ka := ka.below b7
  replace kw0 := kw0.below b7
  replace ow0 := ow0.below b7
  replace kw1 := kw1.below b7
  replace ow1 := ow1.below b7
  replace kxa := kxa.below b7
  replace oxa := oxa.below b7
  replace kg0 := kg0.below b7
  replace og0 := og0.below b7
  replace kg1 := kg1.below b7
  replace og1 := og1.below b7
  clear HB0 KL BBF OXF HBt HBe ot lt
  have z1 := b1.size
  have z2 := b2.size
  have z3 := b3.size
  have z4 := b4.size
  have z5 := b5.size
  have z6 := b6.size
  have z7 := b7.size
  have AP_xa_g0 := Lib.hid (Within.apart lxa lg0 (.inl (by omega)))
  have AP_xa_g1 := Lib.hid (Within.apart lxa lg1 (.inl (by omega)))
  have AP_w0_xa := Lib.hid (Within.apart lw0 lxa (.inl (by omega)))
  have AP_w0_g0 := Lib.hid (Within.apart lw0 lg0 (.inl (by omega)))
  have AP_w0_g1 := Lib.hid (Within.apart lw0 lg1 (.inl (by omega)))
  have AP_w1_xa := Lib.hid (Within.apart lw1 lxa (.inl (by omega)))
  have AP_w1_g0 := Lib.hid (Within.apart lw1 lg0 (.inl (by omega)))
  have AP_w1_g1 := Lib.hid (Within.apart lw1 lg1 (.inl (by omega)))
  have AP_g0_g1 := HAPg
  have F_xa := Lib.hid (Within.from (B := w.heap.size) lxa (by have := bb1.size; omega))
  have N_xa := Lib.hid nxa
  have KX_a_xa := Lib.hid (show ∀ i ∈ [w.heap.size], i ∉ gxa :: Sxa from fun i hi hm => by have h1 := (lxa i hm).1; have h2 := HKa.out; simp at hi; omega)
  have F_g0 := Lib.hid (Within.from (B := w.heap.size) lg0 (by have := bb1.size; omega))
  have N_g0 := Lib.hid ng0
  have KX_a_g0 := Lib.hid (show ∀ i ∈ [w.heap.size], i ∉ gg0 :: Sg0 from fun i hi hm => by have h1 := (lg0 i hm).1; have h2 := HKa.out; simp at hi; omega)
  have F_g1 := Lib.hid (Within.from (B := w.heap.size) lg1 (by have := bb1.size; omega))
  have N_g1 := Lib.hid ng1
  have KX_a_g1 := Lib.hid (show ∀ i ∈ [w.heap.size], i ∉ gg1 :: Sg1 from fun i hi hm => by have h1 := (lg1 i hm).1; have h2 := HKa.out; simp at hi; omega)
  clear z1 z2 z3 z4 z5 z6 z7
  have kxa_c0 := kxa.here.cell 0 _ rfl
  have kxa_c1 := kxa.here.cell 1 _ rfl
  have kxa_c2 := kxa.here.cell 2 _ rfl
  go_wp2_with fail
  clear kxa_c0 kxa_c1 kxa_c2
  refine (markQ_cal _ a _ (1) _ (by omega) (by omega) oxa).mono ?_
  rintro e w8 ⟨rfl, mkxa, c8⟩
  clear oxa
  have bb8 := below_chg bb7 c8 bb7.size (fun i hi => F_xa.out i (List.mem_cons_of_mem _ hi))
  replace ka := ka.chg c8 (fun i hi hm => KX_a_xa.out i hi (List.mem_cons_of_mem _ hm))
  replace kw0 := kw0.chg c8 (fun i hi hm => AP_w0_xa.out i (by simp at hi; subst hi; exact List.mem_cons_self ..) (List.mem_cons_of_mem _ hm))
  replace ow0 := ow0.chg c8 (fun i hi hm => AP_w0_xa.out i (List.mem_cons_of_mem _ hi) (List.mem_cons_of_mem _ hm))
  replace kw1 := kw1.chg c8 (fun i hi hm => AP_w1_xa.out i (by simp at hi; subst hi; exact List.mem_cons_self ..) (List.mem_cons_of_mem _ hm))
  replace ow1 := ow1.chg c8 (fun i hi hm => AP_w1_xa.out i (List.mem_cons_of_mem _ hi) (List.mem_cons_of_mem _ hm))
  replace kxa := kxa.chg c8 (fun i hi hm => by simp at hi; subst hi; exact N_xa.out hm)
  replace kg0 := kg0.chg c8 (fun i hi hm => (apart_symm AP_xa_g0.out) i (by simp at hi; subst hi; exact List.mem_cons_self ..) (List.mem_cons_of_mem _ hm))
  replace og0 := og0.chg c8 (fun i hi hm => (apart_symm AP_xa_g0.out) i (List.mem_cons_of_mem _ hi) (List.mem_cons_of_mem _ hm))
  replace kg1 := kg1.chg c8 (fun i hi hm => (apart_symm AP_xa_g1.out) i (by simp at hi; subst hi; exact List.mem_cons_self ..) (List.mem_cons_of_mem _ hm))
  replace og1 := og1.chg c8 (fun i hi hm => (apart_symm AP_xa_g1.out) i (List.mem_cons_of_mem _ hi) (List.mem_cons_of_mem _ hm))
  have hk : decide (((1 + szQ a) : Int) < 0) = false := decide_eq_false (by omega)
  have kg0_c0 := kg0.here.cell 0 _ rfl
  have kg0_c1 := kg0.here.cell 1 _ rfl
  have kg0_c2 := kg0.here.cell 2 _ rfl
  have kw0_c0 := kw0.here.cell 0 _ rfl
  have kw0_c1 := kw0.here.cell 1 _ rfl
  have kw0_c2 := kw0.here.cell 2 _ rfl
  go_wp2_with fail
  clear kg0_c0 kg0_c1 kg0_c2 kw0_c0 kw0_c1 kw0_c2
  refine (eqM_cal _ _ R0 R0 _ (capM_of (by omega)) (OwnM.rd og0.here) (OwnM.rd ow0.here)).mono ?_
  rintro e w9 ⟨rfl, b9⟩
  rw [decide_refl]
  have bb9 := Below.next bb8 b9
  replace ka := ka.below b9
  replace kw0 := kw0.below b9
  replace ow0 := ow0.below b9
  replace kw1 := kw1.below b9
  replace ow1 := ow1.below b9
  replace kxa := kxa.below b9
  replace kg0 := kg0.below b9
  replace og0 := og0.below b9
  replace kg1 := kg1.below b9
  replace og1 := og1.below b9
  replace mkxa := mkxa.below b9
  have kg1_c0 := kg1.here.cell 0 _ rfl
  have kg1_c1 := kg1.here.cell 1 _ rfl
  have kg1_c2 := kg1.here.cell 2 _ rfl
  have kw1_c0 := kw1.here.cell 0 _ rfl
  have kw1_c1 := kw1.here.cell 1 _ rfl
  have kw1_c2 := kw1.here.cell 2 _ rfl
  go_wp2_with fail
  clear kg1_c0 kg1_c1 kg1_c2 kw1_c0 kw1_c1 kw1_c2
  refine (eqQ_cal _ _ R1 R1 _ (capQ_of (by omega)) (OwnQ.rd og1.here) (OwnQ.rd ow1.here)).mono ?_
  rintro e w10 ⟨rfl, b10⟩
  rw [decide_refl]
  have bb10 := Below.next bb9 b10
  replace ka := ka.below b10
  replace kw0 := kw0.below b10
  replace ow0 := ow0.below b10
  replace kw1 := kw1.below b10
  replace ow1 := ow1.below b10
  replace kxa := kxa.below b10
  replace kg0 := kg0.below b10
  replace og0 := og0.below b10
  replace kg1 := kg1.below b10
  replace og1 := og1.below b10
  replace mkxa := mkxa.below b10
  clear hk
  have kg0_c0 := kg0.here.cell 0 _ rfl
  have kg0_c1 := kg0.here.cell 1 _ rfl
  have kg0_c2 := kg0.here.cell 2 _ rfl
  go_wp2_with fail
  clear kg0_c0 kg0_c1 kg0_c2
  refine (markM_cal _ R0 _ (1) _ (by omega) (by omega) og0).mono ?_
  rintro e w11 ⟨rfl, mkg0, c11⟩
  clear og0
  have bb11 := below_chg bb10 c11 bb10.size (fun i hi => F_g0.out i (List.mem_cons_of_mem _ hi))
  replace ka := ka.chg c11 (fun i hi hm => KX_a_g0.out i hi (List.mem_cons_of_mem _ hm))
  replace kw0 := kw0.chg c11 (fun i hi hm => AP_w0_g0.out i (by simp at hi; subst hi; exact List.mem_cons_self ..) (List.mem_cons_of_mem _ hm))
  replace ow0 := ow0.chg c11 (fun i hi hm => AP_w0_g0.out i (List.mem_cons_of_mem _ hi) (List.mem_cons_of_mem _ hm))
  replace kw1 := kw1.chg c11 (fun i hi hm => AP_w1_g0.out i (by simp at hi; subst hi; exact List.mem_cons_self ..) (List.mem_cons_of_mem _ hm))
  replace ow1 := ow1.chg c11 (fun i hi hm => AP_w1_g0.out i (List.mem_cons_of_mem _ hi) (List.mem_cons_of_mem _ hm))
  replace kxa := kxa.chg c11 (fun i hi hm => AP_xa_g0.out i (by simp at hi; subst hi; exact List.mem_cons_self ..) (List.mem_cons_of_mem _ hm))
  replace kg0 := kg0.chg c11 (fun i hi hm => by simp at hi; subst hi; exact N_g0.out hm)
  replace kg1 := kg1.chg c11 (fun i hi hm => (apart_symm AP_g0_g1.out) i (by simp at hi; subst hi; exact List.mem_cons_self ..) (List.mem_cons_of_mem _ hm))
  replace og1 := og1.chg c11 (fun i hi hm => (apart_symm AP_g0_g1.out) i (List.mem_cons_of_mem _ hi) (List.mem_cons_of_mem _ hm))
  replace mkxa := mkxa.chg c11 (fun i hi hm => AP_xa_g0.out i (List.mem_cons_of_mem _ hi) (List.mem_cons_of_mem _ hm))
  have kg1_c0 := kg1.here.cell 0 _ rfl
  have kg1_c1 := kg1.here.cell 1 _ rfl
  have kg1_c2 := kg1.here.cell 2 _ rfl
  go_wp2_with fail
  clear kg1_c0 kg1_c1 kg1_c2
  refine (markQ_cal _ R1 _ (1 + mkM R0) _ (by omega) (by omega) og1).mono ?_
  rintro e w12 ⟨rfl, mkg1, c12⟩
  clear og1
  have bb12 := below_chg bb11 c12 bb11.size (fun i hi => F_g1.out i (List.mem_cons_of_mem _ hi))
  replace ka := ka.chg c12 (fun i hi hm => KX_a_g1.out i hi (List.mem_cons_of_mem _ hm))
  replace kw0 := kw0.chg c12 (fun i hi hm => AP_w0_g1.out i (by simp at hi; subst hi; exact List.mem_cons_self ..) (List.mem_cons_of_mem _ hm))
  replace ow0 := ow0.chg c12 (fun i hi hm => AP_w0_g1.out i (List.mem_cons_of_mem _ hi) (List.mem_cons_of_mem _ hm))
  replace kw1 := kw1.chg c12 (fun i hi hm => AP_w1_g1.out i (by simp at hi; subst hi; exact List.mem_cons_self ..) (List.mem_cons_of_mem _ hm))
  replace ow1 := ow1.chg c12 (fun i hi hm => AP_w1_g1.out i (List.mem_cons_of_mem _ hi) (List.mem_cons_of_mem _ hm))
  replace kxa := kxa.chg c12 (fun i hi hm => AP_xa_g1.out i (by simp at hi; subst hi; exact List.mem_cons_self ..) (List.mem_cons_of_mem _ hm))
  replace kg0 := kg0.chg c12 (fun i hi hm => AP_g0_g1.out i (by simp at hi; subst hi; exact List.mem_cons_self ..) (List.mem_cons_of_mem _ hm))
  replace kg1 := kg1.chg c12 (fun i hi hm => by simp at hi; subst hi; exact N_g1.out hm)
  replace mkxa := mkxa.chg c12 (fun i hi hm => AP_xa_g1.out i (List.mem_cons_of_mem _ hi) (List.mem_cons_of_mem _ hm))
  replace mkg0 := mkg0.chg c12 (fun i hi hm => AP_g0_g1.out i (List.mem_cons_of_mem _ hi) (List.mem_cons_of_mem _ hm))
  have kg0_c0 := kg0.here.cell 0 _ rfl
  have kg0_c1 := kg0.here.cell 1 _ rfl
  have kg0_c2 := kg0.here.cell 2 _ rfl
  go_wp2_with fail
  clear kg0_c0 kg0_c1 kg0_c2
  refine (heldM_cal _ R0 (1) _ (by omega) (by omega) mkg0.here).mono ?_
  rintro e w13 ⟨rfl, b13⟩
  have bb13 := Below.next bb12 b13
  replace ka := ka.below b13
  replace kw0 := kw0.below b13
  replace ow0 := ow0.below b13
  replace kw1 := kw1.below b13
  replace ow1 := ow1.below b13
  replace kxa := kxa.below b13
  replace kg0 := kg0.below b13
  replace kg1 := kg1.below b13
  replace mkxa := mkxa.below b13
  replace mkg0 := mkg0.below b13
  replace mkg1 := mkg1.below b13
  have hq13 : decide ((1 : Int) + mkM R0 < 0) = false := decide_eq_false (by omega)
  have kg1_c0 := kg1.here.cell 0 _ rfl
  have kg1_c1 := kg1.here.cell 1 _ rfl
  have kg1_c2 := kg1.here.cell 2 _ rfl
  go_wp2_with fail
  clear kg1_c0 kg1_c1 kg1_c2
  refine (heldQ_cal _ R1 (1 + mkM R0) _ (by omega) (by omega) mkg1.here).mono ?_
  rintro e w14 ⟨rfl, b14⟩
  have bb14 := Below.next bb13 b14
  replace ka := ka.below b14
  replace kw0 := kw0.below b14
  replace ow0 := ow0.below b14
  replace kw1 := kw1.below b14
  replace ow1 := ow1.below b14
  replace kxa := kxa.below b14
  replace kg0 := kg0.below b14
  replace kg1 := kg1.below b14
  replace mkxa := mkxa.below b14
  replace mkg0 := mkg0.below b14
  replace mkg1 := mkg1.below b14
  have hq14 : decide ((1 + mkM R0 : Int) + szQ R1 < 0) = false := decide_eq_false (by omega)
  have ka_c0 := ka.here.cell 0 _ rfl
  have ka_c1 := ka.here.cell 1 _ rfl
  have ka_c2 := ka.here.cell 2 _ rfl
  go_upto_region 30 with fail
  go_cut [18, 19, 20] (fun s t c wx => NewLoc2 27 51 (fun v => OwnM v R0) (fun v => OwnQ v R1) w14 s t wx ∧ c = .bool R2)
  case first =>
    go_wp2_with fail
    refine (toQ_new _ a _ hza (RFa.out _ bb14)).mono ?_
    rintro e wt ⟨ut, St, rfl, ot, lt, bt⟩
    obtain ⟨At, ct, Bt, dt, rfl⟩ := ownQ_form ot.here
    go_wp2_with fail
    have bb_t := Below.next bb14 bt
    refine (HI.out _ _ ot.here (HTC.out.below bb_t) (HT0.out.below bb_t)).mono ?_
    rintro e wf ⟨uf, vf, Sf, Df, rfl, of, pf, hapf, lf, kf, bf⟩
    obtain ⟨Af, cf, rfl⟩ := ownM_form of.here
    obtain ⟨Ah, ch, Bh, dh, rfl⟩ := ownQ_form pf.here
    have bwf := Below.next bt bf
    go_wp2_with fail
    go_meet
    exact ⟨newLoc2_last of pf hapf lf kf bt.size bwf, rfl⟩
  rename World => w15
  clear ka_c0 ka_c1 ka_c2
  obtain ⟨⟨gh0, gh1, csh0, csh1, Sh0, Sh1, rfl, rfl, kh0, kh1, oh0, oh1, aph, nh0, nh1, lh0, lh1, b15⟩, rfl⟩ := hcut
  obtain ⟨Ah0, ch0, eh0⟩ := ownM_form oh0.here
  injection eh0 with eh0
  subst eh0
  obtain ⟨Ah1, ch1, Bh1, dh1, eh1⟩ := ownQ_form oh1.here
  injection eh1 with eh1
  subst eh1
  have HAPh := Lib.hid aph
  clear aph
  have bb15 := Below.next bb14 b15
  replace ka := ka.below b15
  replace kw0 := kw0.below b15
  replace ow0 := ow0.below b15
  replace kw1 := kw1.below b15
  replace ow1 := ow1.below b15
  replace kxa := kxa.below b15
  replace kg0 := kg0.below b15
  replace kg1 := kg1.below b15
  replace mkxa := mkxa.below b15
  replace mkg0 := mkg0.below b15
  replace mkg1 := mkg1.below b15
  have kh0_c0 := kh0.here.cell 0 _ rfl
  have kh0_c1 := kh0.here.cell 1 _ rfl
  have kh0_c2 := kh0.here.cell 2 _ rfl
  have kw0_c0 := kw0.here.cell 0 _ rfl
  have kw0_c1 := kw0.here.cell 1 _ rfl
  have kw0_c2 := kw0.here.cell 2 _ rfl
  go_wp2_with fail
  clear kh0_c0 kh0_c1 kh0_c2 kw0_c0 kw0_c1 kw0_c2
  refine (eqM_cal _ _ R0 R0 _ (capM_of (by omega)) (OwnM.rd oh0.here) (OwnM.rd ow0.here)).mono ?_
  rintro e w16 ⟨rfl, b16⟩
  rw [decide_refl]
  have bb16 := Below.next bb15 b16
  replace ka := ka.below b16
  replace kw0 := kw0.below b16
  replace ow0 := ow0.below b16
  replace kw1 := kw1.below b16
  replace ow1 := ow1.below b16
  replace kxa := kxa.below b16
  replace kg0 := kg0.below b16
  replace kg1 := kg1.below b16
  replace mkxa := mkxa.below b16
  replace mkg0 := mkg0.below b16
  replace mkg1 := mkg1.below b16
  replace kh0 := kh0.below b16
  replace oh0 := oh0.below b16
  replace kh1 := kh1.below b16
  replace oh1 := oh1.below b16
  have kh1_c0 := kh1.here.cell 0 _ rfl
  have kh1_c1 := kh1.here.cell 1 _ rfl
  have kh1_c2 := kh1.here.cell 2 _ rfl
  have kw1_c0 := kw1.here.cell 0 _ rfl
  have kw1_c1 := kw1.here.cell 1 _ rfl
  have kw1_c2 := kw1.here.cell 2 _ rfl
  go_wp2_with fail
  clear kh1_c0 kh1_c1 kh1_c2 kw1_c0 kw1_c1 kw1_c2
  refine (eqQ_cal _ _ R1 R1 _ (capQ_of (by omega)) (OwnQ.rd oh1.here) (OwnQ.rd ow1.here)).mono ?_
  rintro e w17 ⟨rfl, b17⟩
  rw [decide_refl]
  have bb17 := Below.next bb16 b17
  replace ka := ka.below b17
  replace kw0 := kw0.below b17
  replace ow0 := ow0.below b17
  replace kw1 := kw1.below b17
  replace ow1 := ow1.below b17
  replace kxa := kxa.below b17
  replace kg0 := kg0.below b17
  replace kg1 := kg1.below b17
  replace mkxa := mkxa.below b17
  replace mkg0 := mkg0.below b17
  replace mkg1 := mkg1.below b17
  replace kh0 := kh0.below b17
  replace oh0 := oh0.below b17
  replace kh1 := kh1.below b17
  replace oh1 := oh1.below b17
  have kg0_c0 := kg0.here.cell 0 _ rfl
  have kg0_c1 := kg0.here.cell 1 _ rfl
  have kg0_c2 := kg0.here.cell 2 _ rfl
  go_wp2_with fail
  clear kg0_c0 kg0_c1 kg0_c2
  refine (heldM_cal _ R0 (1) _ (by omega) (by omega) mkg0.here).mono ?_
  rintro e w18 ⟨rfl, b18⟩
  have bb18 := Below.next bb17 b18
  replace ka := ka.below b18
  replace kw0 := kw0.below b18
  replace ow0 := ow0.below b18
  replace kw1 := kw1.below b18
  replace ow1 := ow1.below b18
  replace kxa := kxa.below b18
  replace kg0 := kg0.below b18
  replace kg1 := kg1.below b18
  replace mkxa := mkxa.below b18
  replace mkg0 := mkg0.below b18
  replace mkg1 := mkg1.below b18
  replace kh0 := kh0.below b18
  replace oh0 := oh0.below b18
  replace kh1 := kh1.below b18
  replace oh1 := oh1.below b18
  have hq18 : decide ((1 : Int) + mkM R0 < 0) = false := decide_eq_false (by omega)
  have kg1_c0 := kg1.here.cell 0 _ rfl
  have kg1_c1 := kg1.here.cell 1 _ rfl
  have kg1_c2 := kg1.here.cell 2 _ rfl
  go_wp2_with fail
  clear kg1_c0 kg1_c1 kg1_c2
  refine (heldQ_cal _ R1 (1 + mkM R0) _ (by omega) (by omega) mkg1.here).mono ?_
  rintro e w19 ⟨rfl, b19⟩
  have bb19 := Below.next bb18 b19
  replace ka := ka.below b19
  replace kw0 := kw0.below b19
  replace ow0 := ow0.below b19
  replace kw1 := kw1.below b19
  replace ow1 := ow1.below b19
  replace kxa := kxa.below b19
  replace kg0 := kg0.below b19
  replace kg1 := kg1.below b19
  replace mkxa := mkxa.below b19
  replace mkg0 := mkg0.below b19
  replace mkg1 := mkg1.below b19
  replace kh0 := kh0.below b19
  replace oh0 := oh0.below b19
  replace kh1 := kh1.below b19
  replace oh1 := oh1.below b19
  have hq19 : decide ((1 + mkM R0 : Int) + szQ R1 < 0) = false := decide_eq_false (by omega)
  go_wp2
  go_ret
  exact ⟨rfl, bb19⟩
end Go.Proofs.YtcenmdiblbooeaaGreatDoor

namespace Go.Proofs.YtcenmdiblbooeaaGreatDoor
open Go.RowKit

theorem ownS_open {u c : Value} {x : SI} {w : World} (h : OwnS (.agg #[c, u]) x w) : OwnI u x.2 w := by
  obtain ⟨u', e, hu⟩ := h
  injection e with e
  simp at e
  obtain ⟨_, e2⟩ := e
  subst e2
  exact hu
theorem OwnS.below {w W : World} {v : Value} {x : SI} (h : OwnS v x w) (hb : Below w.heap.size w W) : OwnS v x W := by
  obtain ⟨u, rfl, o⟩ := h
  exact ⟨u, rfl, own_below o hb⟩
theorem one_szS : szS (ofZ 1) ≤ 1048576 := by have := ofZ_len 1; unfold szS szI; omega
theorem postQb_eq {q Q : QI × Bool} (e : q = Q) {w w' : World} {n : Ending} (h : PostQb q.1 q.2 w n w') : PostQb Q.1 Q.2 w n w' := by rw [← e]; exact h
theorem postn_eq {z z' : Int} (e : z = z') {w w' : World} {n : Ending} (h : Postn z w n w') : Postn z' w n w' := by rw [← e]; exact h
theorem newQ_ret {r : Nat} {u d c0 c1 c2 : Value} {x : QI} {w W : World} {B C : Nat} (hb : BoxAt r #[c0, c1, c2] 51 W) (o : W.ownsRow B 3 1 u x.1.2.length (intsV x.1.2)) (p : W.ownsRow C 3 1 d x.2.length (intsV x.2))
    (hap : ∀ g, u.ownBlock = some g → d.ownBlock ≠ some g) (hB : w.heap.size ≤ B) (hC : w.heap.size ≤ C) (hr : w.heap.size ≤ r) (hW : Below w.heap.size w W) :
    NewV (fun v => OwnQ v x) w (.returned (.agg #[.bool x.1.1, u, d])) (((W.setCell ⟨r, 0, none⟩ (.bool x.1.1)).setCell ⟨r, 1, none⟩ u).setCell ⟨r, 2, none⟩ d) := by
  obtain ⟨v, S, e, k1, k2, k3⟩ := newQb_ret (b := true) hb o p hap hB hC hr hW
  refine ⟨v, S, ?_, k1, k2, k3⟩
  injection e with e
  injection e with e
  simp at e
  rw [e]
theorem OwnQ.below {w W : World} {v : Value} {x : QI} (h : OwnQ v x w) (hb : Below w.heap.size w W) : OwnQ v x W := by
  obtain ⟨u, d, rfl, o, p, hap⟩ := h
  exact ⟨u, d, rfl, own_below o hb, own_below p hb, hap⟩
end Go.Proofs.YtcenmdiblbooeaaGreatDoor

namespace Go.Proofs.YtcenmdiblbooeaaGreatDoor
open Go.RowKit

theorem cmpS_zero {b : SI} (h : okS b = true) : (cmpS b zeroS = 0) ↔ nval b.2 = 0 := by
  have n := nval_ok (okS_parts h).1
  unfold cmpS
  rw [if_pos ⟨h, zeroS_ok⟩, zeroS_val]
  have e : valS b = 0 ↔ nval b.2 = 0 := by
    unfold valS
    split <;> omega
  rw [← e]
  unfold cmpI
  split
  · omega
  · split <;> omega
theorem makeQ_none {a b : SI} (h : ¬ (okS a = true ∧ cmpS b zeroS ≠ 0)) : makeQ a b = (zeroQ, false) := by
  unfold makeQ
  split
  · rename_i hk
    have hz : nval b.2 = 0 := (cmpS_zero hk.2).1 (Classical.byContradiction fun e => h ⟨hk.1, e⟩)
    unfold lowQ
    rw [if_neg (fun k => k.1 (by rw [hz]; rfl))]
  · rfl
theorem cmpS_ok {b : SI} (h : cmpS b zeroS ≠ 0) : okS b = true := by
  unfold cmpS at h
  rcases Classical.em (okS b = true ∧ okS zeroS = true) with k | k
  · exact k.1
  · rw [if_neg k] at h
    exact absurd rfl h
/-- the parts that RatMake divides out -/
theorem makeQ_parts {a b : SI} (ha : okS a = true) (hb : cmpS b zeroS ≠ 0) : ∃ X Y : Nat,
    gcdN a.2 b.2 = limbs (Nat.gcd (nval a.2).toNat (nval b.2).toNat) ∧ (divN a.2 (gcdN a.2 b.2)).1 = limbs X ∧ (divN b.2 (gcdN a.2 b.2)).1 = limbs Y ∧ (limbs X).length ≤ 50 ∧ (limbs Y).length ≤ 50 ∧ 0 < (limbs Y).length ∧
    makeQ a b = if (limbs X).length ≤ 18 ∧ (limbs Y).length ≤ 18 then ((mkS (!(a.1 == b.1)) (limbs X), limbs Y), true) else (zeroQ, false) := by
  have hkb := cmpS_ok hb
  have pa := okS_parts ha
  have pb := okS_parts hkb
  have na := nval_ok pa.1
  have nb := nval_ok pb.1
  have hz : nval b.2 ≠ 0 := fun e => hb ((cmpS_zero hkb).2 e)
  have hg := gcdN_small a.2 b.2
  have eg : gcdN a.2 b.2 = limbs (Nat.gcd (nval a.2).toNat (nval b.2).toNat) := by unfold gcdN; rw [if_pos ⟨pa.1, pb.1⟩]
  have g0 := Nat.gcd_pos_of_pos_right (nval a.2).toNat (show 0 < (nval b.2).toNat by omega)
  have okg : natOkB (gcdN a.2 b.2) = true := by rw [eg] at hg ⊢; exact limbs_okL _ hg
  have lg : 0 < (gcdN a.2 b.2).length := by
    rw [eg]
    rcases Nat.eq_zero_or_pos (limbs (Nat.gcd (nval a.2).toNat (nval b.2).toNat)).length with h | h
    · have := (limbs_zero_iff _).1 h
      omega
    · exact h
  have dv : ∀ c : List Int, natOkB c = true → (divN c (gcdN a.2 b.2)).1 = limbs ((nval c).toNat / Nat.gcd (nval a.2).toNat (nval b.2).toNat) ∧ (limbs ((nval c).toNat / Nat.gcd (nval a.2).toNat (nval b.2).toNat)).length ≤ 50 := by
    intro c hc
    have nc := nval_ok hc
    unfold divN
    rw [if_pos ⟨hc, okg, lg⟩, eg, limbs_val]
    have e : (nval c / ((Nat.gcd (nval a.2).toNat (nval b.2).toNat : Nat) : Int)).toNat = (nval c).toNat / Nat.gcd (nval a.2).toNat (nval b.2).toNat := by
      rw [← div_toNat]
      congr 2
      omega
    simp only
    rw [e]
    refine ⟨rfl, ?_⟩
    have hm := limbs_mono (m := (((nval c).toNat / Nat.gcd (nval a.2).toNat (nval b.2).toNat : Nat) : Int)) (n := nval c) (by omega) (by have := Nat.div_le_self (nval c).toNat (Nat.gcd (nval a.2).toNat (nval b.2).toNat); omega)
    rw [Int.toNat_natCast, ← natOk_limbs hc] at hm
    have := (natOk_parts hc).2.1
    omega
  have hy : 0 < (limbs ((nval b.2).toNat / Nat.gcd (nval a.2).toNat (nval b.2).toNat)).length := by
    have h1 := Nat.div_pos (Nat.le_of_dvd (show 0 < (nval b.2).toNat by omega) (Nat.gcd_dvd_right (nval a.2).toNat (nval b.2).toNat)) g0
    rcases Nat.eq_zero_or_pos (limbs ((nval b.2).toNat / Nat.gcd (nval a.2).toNat (nval b.2).toNat)).length with h | h
    · have := (limbs_zero_iff _).1 h
      omega
    · exact h
  refine ⟨(nval a.2).toNat / Nat.gcd (nval a.2).toNat (nval b.2).toNat, (nval b.2).toNat / Nat.gcd (nval a.2).toNat (nval b.2).toNat, eg, (dv _ pa.1).1, (dv _ pb.1).1, (dv _ pa.1).2, (dv _ pb.1).2, hy, ?_⟩
  unfold makeQ
  rw [if_pos ⟨ha, hkb⟩]
  unfold lowQ
  have h0 : (nval b.2).toNat ≠ 0 := by omega
  have e : (a.1 != b.1) = !(a.1 == b.1) := rfl
  simp only [h0, ne_eq, not_false_eq_true, true_and, e]

theorem mulS_cross {x : SI} {d : List Int} {n : Nat} (hx : okS x = true) (hd : natOkB d = true) (hn : n = (nval d).toNat) : mulS x (false, d) = ofZ (valS x * n) ∧ okS (false, d) = true := by
  have h0 := nval_ok hd
  have hk : okS (false, d) = true := by unfold okS; rw [hd]; rfl
  refine ⟨?_, hk⟩
  unfold mulS
  rw [if_pos ⟨hx, hk⟩]
  have : valS (false, d) = n := by unfold valS; simp; omega
  rw [this]
theorem cross_abs {q : QI} {n : Nat} (h : Parts q) (hn : (n : Int) < bp 18) : ((numQ q * n).natAbs : Int) < bp 36 := by
  rw [h.top]
  have := prod_lt h.nlt hn
  split
  · rw [Int.neg_mul, Int.natAbs_neg, ← Int.natCast_mul]; omega
  · rw [← Int.natCast_mul]; omega
theorem ofZ_short {z : Int} {k : Nat} (h : (z.natAbs : Int) < bp k) (hk : k ≤ 50) : okS (ofZ z) = true ∧ valS (ofZ z) = z ∧ ofZ z = (decide (z < 0), limbs z.natAbs) := by
  have hl := limbs_length_le z.natAbs k h
  refine ⟨ofZ_ok z, ofZ_val (by omega), ?_⟩
  unfold ofZ
  rw [if_pos (by omega)]
/-- what RatMake makes of integers -/
theorem makeQ_ofZ {z : Int} {k m : Nat} {n : Bool} {d : List Int} (h : (z.natAbs : Int) < bp k) (hk : k ≤ 50) (hd : d = limbs m) (_ : (limbs m).length ≤ 50) (hn : okS (n, d) = true) : makeQ (ofZ z) (n, d) = lowQ (decide (z < 0) != n) z.natAbs m := by
  obtain ⟨h1, _, h3⟩ := ofZ_short h hk
  unfold makeQ
  rw [if_pos ⟨h1, hn⟩, h3]
  simp only
  rw [limbs_val, hd, limbs_val, Int.toNat_natCast, Int.toNat_natCast]
theorem nil_ok {d : List Int} (hd : natOkB d = true) : okS (false, d) = true := by unfold okS; rw [hd]; rfl
theorem numQ_val (q : QI) : valS q.1 = numQ q := rfl
def leftS (r s : QI) : SI := mulS r.1 (false, s.2)
def denS (r s : QI) : SI := (false, mulN r.2 s.2)
def topS (r s : QI) : SI := mulS r.1 s.1
theorem leftS_eq {r s : QI} (hr : Parts r) (hs : Parts s) : leftS r s = ofZ (numQ r * denQ s) ∧ okS (leftS r s) = true ∧ valS (leftS r s) = numQ r * denQ s := by
  have h := (mulS_cross hr.okn hs.okd (show denQ s = _ from rfl)).1
  rw [numQ_val] at h
  have hz := ofZ_short (cross_abs hr hs.dlt) (by decide)
  unfold leftS
  rw [h]
  exact ⟨rfl, hz.1, hz.2.1⟩
theorem denS_eq {r s : QI} (hr : Parts r) (hs : Parts s) : denS r s = (false, limbs (denQ r * denQ s)) ∧ okS (denS r s) = true ∧ (limbs (denQ r * denQ s)).length ≤ 50 := by
  have hl := Nat.le_trans (prod_len hr.dlt hs.dlt) (show 36 ≤ 50 by decide)
  have e : mulN r.2 s.2 = limbs (denQ r * denQ s) := by
    unfold mulN natRes capL
    rw [if_pos ⟨hr.okd, hs.okd⟩, mul_toNat hr.okd hs.okd]
    show (if 50 < (limbs (denQ r * denQ s)).length then [] else limbs (denQ r * denQ s)) = _
    rw [if_neg (by omega)]
  unfold denS
  rw [e]
  exact ⟨rfl, nil_ok (limbs_okL _ hl), hl⟩
theorem topS_eq {r s : QI} (hr : Parts r) (hs : Parts s) : topS r s = ofZ (numQ r * numQ s) ∧ ((numQ r * numQ s).natAbs : Int) < bp 36 ∧ (numQ r * numQ s).natAbs = topN r * topN s := by
  have e : (numQ r * numQ s).natAbs = topN r * topN s := by
    rw [Int.natAbs_mul, hr.top, hs.top]
    congr 1 <;> split <;> omega
  unfold topS mulS
  rw [if_pos ⟨hr.okn, hs.okn⟩]
  exact ⟨rfl, by rw [e]; exact prod_lt hr.nlt hs.nlt, e⟩
theorem sum_abs {x y : Int} (hx : (x.natAbs : Int) < bp 36) (hy : (y.natAbs : Int) < bp 36) : ((x + y).natAbs : Int) < bp 37 ∧ ((x - y).natAbs : Int) < bp 37 := by
  have := bp37
  omega
theorem addQ_make {r s : QI} (hr : Parts r) (hs : Parts s) (okr : okQ r = true) (oks : okQ s = true) : makeQ (addS (leftS r s) (leftS s r)) (denS r s) = addQ r s := by
  have l := leftS_eq hr hs
  have m := leftS_eq hs hr
  have d := denS_eq hr hs
  have e : addS (leftS r s) (leftS s r) = ofZ (numQ r * denQ s + numQ s * denQ r) := by
    unfold addS
    rw [if_pos ⟨l.2.1, m.2.1⟩, l.2.2, m.2.2]
  rw [e, d.1, makeQ_ofZ (sum_abs (cross_abs hr hs.dlt) (cross_abs hs hr.dlt)).1 (by decide) rfl d.2.2 (by rw [← d.1]; exact d.2.1)]
  unfold addQ
  rw [if_pos ⟨okr, oks⟩]
  simp
theorem subS_ok (x y : SI) : okS (subS x y) = true := by unfold subS; split; exact ofZ_ok _; exact zeroS_ok
theorem numQ_neg {s : QI} (oks : okQ s = true) : (negQ s).2 = true ∧ okQ (negQ s).1 = true ∧ numQ (negQ s).1 = -(numQ s) ∧ denQ (negQ s).1 = denQ s := by
  have h := parts_of oks
  have e : negQ s = ((negS s.1, s.2), true) := by unfold negQ; rw [if_pos oks]
  rw [e]
  have hv := negS_val h.okn
  have hp := okQ_parts oks
  have habs : nval (negS s.1).2 = nval s.1.2 ∧ (negS s.1).2.length = s.1.2.length := by
    have e2 : (negS s.1).2 = limbs (valS s.1).natAbs := by
      unfold negS
      rw [if_pos h.okn]
      have := ofZ_short (z := -(valS s.1)) (k := 18) (by rw [Int.natAbs_neg, valS_abs _ (okS_parts h.okn).1]; exact h.nlt) (by decide)
      rw [this.2.2, Int.natAbs_neg]
    have e3 : s.1.2 = limbs (valS s.1).natAbs := by
      rw [valS_abs _ (okS_parts h.okn).1]
      exact natOk_limbs (okS_parts h.okn).1
    rw [e2, ← e3]
    exact ⟨rfl, rfl⟩
  refine ⟨rfl, ?_, hv, rfl⟩
  unfold okQ
  rw [negS_ok, h.okd]
  simp only [Bool.true_and, decide_eq_true_eq]
  rw [habs.1, habs.2]
  exact ⟨hp.2.2.1, hp.2.2.2.1, hp.2.2.2.2.1, hp.2.2.2.2.2⟩
theorem subQ_make {r s : QI} (hr : Parts r) (hs : Parts s) (okr : okQ r = true) (oks : okQ s = true) : makeQ (subS (leftS r s) (leftS s r)) (denS r s) = subQ r s := by
  have l := leftS_eq hr hs
  have m := leftS_eq hs hr
  have d := denS_eq hr hs
  have e : subS (leftS r s) (leftS s r) = ofZ (numQ r * denQ s - numQ s * denQ r) := by
    unfold subS
    rw [if_pos ⟨l.2.1, m.2.1⟩, l.2.2, m.2.2]
  have n := numQ_neg oks
  rw [e, d.1, makeQ_ofZ (sum_abs (cross_abs hr hs.dlt) (cross_abs hs hr.dlt)).2 (by decide) rfl d.2.2 (by rw [← d.1]; exact d.2.1)]
  unfold subQ addQ
  rw [if_pos n.1, if_pos ⟨okr, n.2.1⟩, n.2.2.1, n.2.2.2, Int.neg_mul, ← Int.sub_eq_add_neg]
  simp
theorem sign_of {q : QI} (h : Parts q) : q.1.1 = decide (numQ q < 0) := okS_sign h.okn
theorem bne_lt {a b : Bool} : (a != b) = (a != b) := rfl
theorem lowQ_sign {n m : Bool} {a b : Nat} (h : a ≠ 0 → n = m) : lowQ n a b = lowQ m a b := by
  by_cases ha : a = 0
  · subst ha
    unfold lowQ
    have e : ∀ k : Bool, mkS k (limbs (0 / Nat.gcd 0 b)) = zeroS := fun k => by
      rw [Nat.zero_div, mkS_limbs]
      cases k <;> exact ofZ_zero
    rw [e, e]
  · rw [h ha]
theorem mulQ_make {r s : QI} (hr : Parts r) (hs : Parts s) (okr : okQ r = true) (oks : okQ s = true) : makeQ (topS r s) (denS r s) = mulQ r s := by
  have t := topS_eq hr hs
  have d := denS_eq hr hs
  rw [t.1, d.1, makeQ_ofZ t.2.1 (by decide) rfl d.2.2 (by rw [← d.1]; exact d.2.1), t.2.2]
  unfold mulQ
  rw [if_pos ⟨okr, oks⟩]
  refine lowQ_sign fun h => ?_
  have hr0 : topN r ≠ 0 := fun e => h (by rw [e, Nat.zero_mul])
  have hs0 : topN s ≠ 0 := fun e => h (by rw [e, Nat.mul_zero])
  rw [hr.top, hs.top]
  have p : 0 < (topN r : Int) * (topN s : Int) := Int.mul_pos (by omega) (by omega)
  have e : decide ((if r.1.1 = true then -(topN r : Int) else topN r) * (if s.1.1 = true then -(topN s : Int) else topN s) < 0) = (r.1.1 != s.1.1) := by
    cases r.1.1 <;> cases s.1.1 <;> simp [Int.neg_mul, Int.mul_neg] <;> omega
  rw [e]
  cases (r.1.1 != s.1.1) <;> rfl
theorem divQ_make {r s : QI} (hr : Parts r) (hs : Parts s) (okr : okQ r = true) (oks : okQ s = true) : makeQ (leftS r s) (leftS s r) = divQ r s := by
  have l := leftS_eq hr hs
  have m := leftS_eq hs hr
  have h1 := ofZ_short (cross_abs hr hs.dlt) (by decide)
  have h2 := ofZ_short (cross_abs hs hr.dlt) (by decide)
  have a1 : (numQ r * denQ s).natAbs = topN r * denQ s := by rw [Int.natAbs_mul, hr.top, Int.natAbs_natCast]; congr 1; split <;> omega
  have a2 : (numQ s * denQ r).natAbs = denQ r * topN s := by rw [Int.natAbs_mul, hs.top, Int.natAbs_natCast, Nat.mul_comm]; congr 1; split <;> omega
  unfold makeQ divQ
  rw [if_pos ⟨l.2.1, m.2.1⟩, if_pos ⟨okr, oks⟩, l.1, m.1, h1.2.2, h2.2.2]
  simp only
  rw [limbs_val, limbs_val, Int.toNat_natCast, Int.toNat_natCast, a1, a2]
  by_cases hs0 : topN s = 0
  · have e : (denQ r * topN s) = 0 := by rw [hs0, Nat.mul_zero]
    have e2 : denQ r * (nval s.1.2).toNat = 0 := e
    rw [e, e2]
    unfold lowQ
    simp
  · refine lowQ_sign fun h => ?_
    have hr0 : topN r ≠ 0 := fun e => h (by rw [e, Nat.zero_mul])
    have p1 : 0 < (topN r : Int) * (denQ s : Int) := Int.mul_pos (by omega) (by have := hs.pos; omega)
    have p2 : 0 < (topN s : Int) * (denQ r : Int) := Int.mul_pos (by omega) (by have := hr.pos; omega)
    have e1 : decide (numQ r * denQ s < 0) = r.1.1 := by rw [hr.top]; cases r.1.1 <;> simp [Int.neg_mul] <;> omega
    have e2 : decide (numQ s * denQ r < 0) = s.1.1 := by rw [hs.top]; cases s.1.1 <;> simp [Int.neg_mul] <;> omega
    rw [e1, e2]
theorem cmpQ_make {r s : QI} (hr : Parts r) (hs : Parts s) (okr : okQ r = true) (oks : okQ s = true) : cmpS (leftS r s) (leftS s r) = cmpQ r s := by
  have l := leftS_eq hr hs
  have m := leftS_eq hs hr
  unfold cmpS cmpQ
  rw [if_pos ⟨l.2.1, m.2.1⟩, if_pos ⟨okr, oks⟩, l.2.2, m.2.2]
end Go.Proofs.YtcenmdiblbooeaaGreatDoor

namespace Go.Proofs
open Go.Shelf
def Tryz.lays169_ren : Go.Shelf.Ren := ⟨fun | 169 => 112 | n => n, fun | 70 => 144 | 9 => 9 | 0 => 0 | 72 => 146 | 37 => 22 | 127 => 182 | 3 => 3 | 5 => 5 | n => n, fun | n => n⟩
theorem Tryz.lays169 : Go.Proofs.Lays.n169 Tryz.prog Tryz.lays169_ren := {
  mixed := by kernel_rfl
  f169 := Tryz.func112.trans (congrArg some (by kernel_rfl))
  t0 := Tryz.underlying0
  a0 := Tryz.isAgg0
  z0 := Tryz.sizeOf0
  v0 := Tryz.zeroValue0
  t3 := Tryz.underlying3
  a3 := Tryz.isAgg3
  z3 := Tryz.sizeOf3
  v3 := Tryz.zeroValue3
  t9 := Tryz.underlying9
  a9 := Tryz.isAgg9
  z9 := Tryz.sizeOf9
  v9 := Tryz.zeroValue9
  t37 := Tryz.underlying22
  a37 := Tryz.isAgg22
  z37 := Tryz.sizeOf22
  v37 := Tryz.zeroValue22
  t70 := Tryz.underlying144
  a70 := Tryz.isAgg144
  z70 := Tryz.sizeOf144
  v70 := Tryz.zeroValue144
  t72 := Tryz.underlying146
  a72 := Tryz.isAgg146
  z72 := Tryz.sizeOf146
  v72 := Tryz.zeroValue146
  t127 := Tryz.underlying182
  a127 := Tryz.isAgg182
  z127 := Tryz.sizeOf182
  v127 := Tryz.zeroValue182 }
theorem Tryz.Builder_Extra_169 : Builder.Extra Tryz.prog Tryz.lays169_ren := {
  sizeBuilder := by kernel_rfl
  liesBuilder := by kernel_rfl
  t5 := Tryz.underlying5
  a5 := Tryz.isAgg5
  z5 := Tryz.sizeOf5
  v5 := Tryz.zeroValue5
  infoByte := by kernel_rfl
  cellsByte := by kernel_rfl
  sizeByte := by kernel_rfl
  neB5 := by decide }
def Tryz.lays231_ren : Go.Shelf.Ren := ⟨fun | 231 => 107 | n => n, fun | 9 => 9 | 5 => 5 | 3 => 3 | 4 => 4 | n => n, fun | n => n⟩
theorem Tryz.lays231 : Go.Proofs.Lays.n231 Tryz.prog Tryz.lays231_ren := {
  mixed := by kernel_rfl
  f231 := Tryz.func107.trans (congrArg some (by kernel_rfl))
  t3 := Tryz.underlying3
  a3 := Tryz.isAgg3
  z3 := Tryz.sizeOf3
  v3 := Tryz.zeroValue3
  t4 := Tryz.underlying4
  a4 := Tryz.isAgg4
  z4 := Tryz.sizeOf4
  v4 := Tryz.zeroValue4
  t5 := Tryz.underlying5
  a5 := Tryz.isAgg5
  z5 := Tryz.sizeOf5
  v5 := Tryz.zeroValue5
  t9 := Tryz.underlying9
  a9 := Tryz.isAgg9
  z9 := Tryz.sizeOf9
  v9 := Tryz.zeroValue9 }
open Go.RowKit in
theorem Tryz.strings_trimLeftByte (s : ByteArray) (c : UInt8) (w : World) :
    Calls Tryz.prog 107 #[.string s, .int .u8 c.toNat] w fun e w' => e = .returned (.string ⟨(Lib.trimLeftB s.data.toList c).toArray⟩) ∧ w' = w := Any.strings_trimLeftByte Tryz.lays231 s c w
def Tryz.lays134_ren : Go.Shelf.Ren := ⟨fun | 134 => 233 | 129 => 225 | n => n, fun | 53 => 207 | 3 => 3 | 4 => 4 | 46 => 172 | 5 => 5 | 9 => 9 | n => n, fun | n => n⟩
theorem Tryz.lays134 : Go.Proofs.Lays.n134 Tryz.prog Tryz.lays134_ren := {
  mixed := by kernel_rfl
  f129 := Tryz.func225.trans (congrArg some (by kernel_rfl))
  f134 := Tryz.func233.trans (congrArg some (by kernel_rfl))
  t3 := Tryz.underlying3
  a3 := Tryz.isAgg3
  z3 := Tryz.sizeOf3
  v3 := Tryz.zeroValue3
  t4 := Tryz.underlying4
  a4 := Tryz.isAgg4
  z4 := Tryz.sizeOf4
  v4 := Tryz.zeroValue4
  t5 := Tryz.underlying5
  a5 := Tryz.isAgg5
  z5 := Tryz.sizeOf5
  v5 := Tryz.zeroValue5
  t9 := Tryz.underlying9
  a9 := Tryz.isAgg9
  z9 := Tryz.sizeOf9
  v9 := Tryz.zeroValue9
  t46 := Tryz.underlying172
  a46 := Tryz.isAgg172
  z46 := Tryz.sizeOf172
  v46 := Tryz.zeroValue172
  t53 := Tryz.underlying207
  a53 := Tryz.isAgg207
  z53 := Tryz.sizeOf207
  v53 := Tryz.zeroValue207 }
theorem Tryz.bits_LeadingZeros64 (x : Int) (w : World) (h0 : 0 ≤ x) (h1 : x ≤ 18446744073709551615) :
    Calls Tryz.prog 233 #[.int .u64 x] w fun e w' => e = .returned (.int .i64 (64 - (Lib.bitLen x.toNat : Int))) ∧ w' = w := Any.bits_LeadingZeros64 Tryz.lays134 x w h0 h1
def Tryz.lays137_ren : Go.Shelf.Ren := ⟨fun | 137 => 209 | 217 => 140 | 266 => 182 | n => n, fun | 9 => 9 | 5 => 5 | 3 => 3 | n => n, fun | n => n⟩
theorem Tryz.lays137 : Go.Proofs.Lays.n137 Tryz.prog Tryz.lays137_ren := {
  mixed := by kernel_rfl
  f137 := Tryz.func209.trans (congrArg some (by kernel_rfl))
  f217 := Tryz.func140.trans (congrArg some (by kernel_rfl))
  f266 := Tryz.func182.trans (congrArg some (by kernel_rfl))
  t3 := Tryz.underlying3
  a3 := Tryz.isAgg3
  z3 := Tryz.sizeOf3
  v3 := Tryz.zeroValue3
  t5 := Tryz.underlying5
  a5 := Tryz.isAgg5
  z5 := Tryz.sizeOf5
  v5 := Tryz.zeroValue5
  t9 := Tryz.underlying9
  a9 := Tryz.isAgg9
  z9 := Tryz.sizeOf9
  v9 := Tryz.zeroValue9 }
open Go.RowKit in
theorem Tryz.strings_IndexByte (s : ByteArray) (c : Int) (w : World) :
    Calls Tryz.prog 209 #[.string s, .int .u8 c] w fun e w' => e = .returned (.int .i64 (Lib.indexByte s.data.toList c.toNat.toUInt8)) ∧ w' = w := Any.strings_IndexByte Tryz.lays137 s c w
def Tryz.lays103_ren : Go.Shelf.Ren := ⟨fun | 103 => 70 | 210 => 103 | 206 => 144 | n => n, fun | 9 => 9 | 4 => 4 | 24 => 103 | 3 => 3 | n => n, fun | n => n⟩
theorem Tryz.lays103 : Go.Proofs.Lays.n103 Tryz.prog Tryz.lays103_ren := {
  mixed := by kernel_rfl
  f103 := Tryz.func70.trans (congrArg some (by kernel_rfl))
  f206 := Tryz.func144.trans (congrArg some (by kernel_rfl))
  f210 := Tryz.func103.trans (congrArg some (by kernel_rfl))
  t3 := Tryz.underlying3
  a3 := Tryz.isAgg3
  z3 := Tryz.sizeOf3
  v3 := Tryz.zeroValue3
  t4 := Tryz.underlying4
  a4 := Tryz.isAgg4
  z4 := Tryz.sizeOf4
  v4 := Tryz.zeroValue4
  t9 := Tryz.underlying9
  a9 := Tryz.isAgg9
  z9 := Tryz.sizeOf9
  v9 := Tryz.zeroValue9
  t24 := Tryz.underlying103
  a24 := Tryz.isAgg103
  z24 := Tryz.sizeOf103
  v24 := Tryz.zeroValue103 }
open Go.RowKit in
theorem Tryz.strings_CutPrefix (s p : ByteArray) (w : World) :
    Calls Tryz.prog 70 #[.string s, .string p] w fun e w' => e = .returned (.tuple #[.string ⟨(Lib.trimPrefix s.data.toList p.data.toList).toArray⟩, .bool (Lib.hasPrefix s.data.toList p.data.toList)]) ∧ w' = w := Any.strings_CutPrefix Tryz.lays103 s p w
open Go.RowKit in
theorem Tryz.Builder_String_any_k (B b : Nat) (l : List UInt8) (w : World) (h : Lib.IsBuilderF 146 5 B b (Lib.byteCells l) w) (hBw : B ≤ w.heap.size) :
    Calls Tryz.prog 112 #[.pointer (some ⟨b, 0, none⟩)] w fun e w' => e = .returned (.string ⟨l.toArray⟩) ∧ (Lib.IsBuilderF 146 5 B b (Lib.byteCells l) w' ∧ Below B w w' ∧ Lib.OthersKept 5 (some b) w w') := Any.Builder_String_any_k Tryz.lays169 Tryz.Builder_Extra_169 B b l w h hBw
def Tryz.laysM171_ren : Go.Shelf.Ren := ⟨fun | 171 => 154 | 243 => 190 | 246 => 212 | 283 => 218 | 284 => 219 | 285 => 220 | 286 => 221 | 129 => 225 | 317 => 224 | 318 => 226 | 319 => 227 | 320 => 228 | 337 => 231 | 338 => 232 | n => n, fun | 3 => 3 | 9 => 9 | 2 => 2 | 4 => 4 | 171 => 226 | 0 => 0 | 53 => 207 | 37 => 22 | 5 => 5 | 173 => 229 | 212 => 244 | 51 => 200 | 20 => 20 | 213 => 245 | 46 => 172 | 232 => 249 | 233 => 250 | n => n, fun | 17 => 5 | 18 => 8 | 19 => 9 | n => n⟩
theorem Tryz.laysM171 : Go.Proofs.LaysM.n171 Tryz.prog Tryz.laysM171_ren := {
  mixed := by kernel_rfl
  f129 := Tryz.func225.trans (congrArg some (by kernel_rfl))
  f171 := Tryz.func154.trans (congrArg some (by kernel_rfl))
  f243 := Tryz.func190.trans (congrArg some (by kernel_rfl))
  f246 := Tryz.func212.trans (congrArg some (by kernel_rfl))
  f283 := Tryz.func218.trans (congrArg some (by kernel_rfl))
  f284 := Tryz.func219.trans (congrArg some (by kernel_rfl))
  f285 := Tryz.func220.trans (congrArg some (by kernel_rfl))
  f286 := Tryz.func221.trans (congrArg some (by kernel_rfl))
  f317 := Tryz.func224.trans (congrArg some (by kernel_rfl))
  f318 := Tryz.func226.trans (congrArg some (by kernel_rfl))
  f319 := Tryz.func227.trans (congrArg some (by kernel_rfl))
  f320 := Tryz.func228.trans (congrArg some (by kernel_rfl))
  f337 := Tryz.func231.trans (congrArg some (by kernel_rfl))
  f338 := Tryz.func232.trans (congrArg some (by kernel_rfl))
  t0 := Tryz.underlying0
  a0 := Tryz.isAgg0
  z0 := Tryz.sizeOf0
  v0 := Tryz.zeroValue0
  t2 := Tryz.underlying2
  a2 := Tryz.isAgg2
  z2 := Tryz.sizeOf2
  v2 := Tryz.zeroValue2
  t3 := Tryz.underlying3
  a3 := Tryz.isAgg3
  z3 := Tryz.sizeOf3
  v3 := Tryz.zeroValue3
  t4 := Tryz.underlying4
  a4 := Tryz.isAgg4
  z4 := Tryz.sizeOf4
  v4 := Tryz.zeroValue4
  t5 := Tryz.underlying5
  a5 := Tryz.isAgg5
  z5 := Tryz.sizeOf5
  v5 := Tryz.zeroValue5
  t9 := Tryz.underlying9
  a9 := Tryz.isAgg9
  z9 := Tryz.sizeOf9
  v9 := Tryz.zeroValue9
  t20 := Tryz.underlying20
  a20 := Tryz.isAgg20
  z20 := Tryz.sizeOf20
  v20 := Tryz.zeroValue20
  t37 := Tryz.underlying22
  a37 := Tryz.isAgg22
  z37 := Tryz.sizeOf22
  v37 := Tryz.zeroValue22
  t46 := Tryz.underlying172
  a46 := Tryz.isAgg172
  z46 := Tryz.sizeOf172
  v46 := Tryz.zeroValue172
  t51 := Tryz.underlying200
  a51 := Tryz.isAgg200
  z51 := Tryz.sizeOf200
  v51 := Tryz.zeroValue200
  t53 := Tryz.underlying207
  a53 := Tryz.isAgg207
  z53 := Tryz.sizeOf207
  v53 := Tryz.zeroValue207
  t171 := Tryz.underlying226
  a171 := Tryz.isAgg226
  z171 := Tryz.sizeOf226
  v171 := Tryz.zeroValue226
  t173 := Tryz.underlying229
  a173 := Tryz.isAgg229
  z173 := Tryz.sizeOf229
  v173 := Tryz.zeroValue229
  t212 := Tryz.underlying244
  a212 := Tryz.isAgg244
  z212 := Tryz.sizeOf244
  v212 := Tryz.zeroValue244
  t213 := Tryz.underlying245
  a213 := Tryz.isAgg245
  z213 := Tryz.sizeOf245
  t232 := Tryz.underlying249
  a232 := Tryz.isAgg249
  z232 := Tryz.sizeOf249
  v232 := Tryz.zeroValue249
  t233 := Tryz.underlying250
  a233 := Tryz.isAgg250
  z233 := Tryz.sizeOf250
  v233 := Tryz.zeroValue250
  g17 := by kernel_rfl
  g18 := by kernel_rfl
  g19 := by kernel_rfl
  i0 := by kernel_rfl
  i2 := by kernel_rfl
  i3 := by kernel_rfl
  i4 := by kernel_rfl
  i5 := by kernel_rfl
  i9 := by kernel_rfl
  i20 := by kernel_rfl
  i37 := by kernel_rfl
  i46 := by kernel_rfl
  i51 := by kernel_rfl
  i53 := by kernel_rfl
  i171 := by kernel_rfl
  i173 := by kernel_rfl
  i212 := by kernel_rfl
  i232 := by kernel_rfl
  i233 := by kernel_rfl
  m17 := by kernel_rfl
  m18 := by kernel_rfl
  m19 := by kernel_rfl }
open Go.RowKit Go.Sort Go.Lib in
theorem Tryz.strconv_Itoa (n : Int) (h0 : -9223372036854775808 ≤ n) (h1 : n ≤ 9223372036854775807) (w : World) (htab : Lib.TabIs Tryz.prog w "internal/strconv.uint64pow10" .u64 Lib.pow10Tab) :
    Calls Tryz.prog 154 #[.int .i64 n] w fun e w' => e = .returned (.string ⟨(Lib.itoa n).toArray⟩) ∧ ∃ k os, w' = grow (w.drewN k) os := Any.strconv_Itoa Tryz.laysM171 n h0 h1 w htab
def Tryz.lays219_ren : Go.Shelf.Ren := ⟨fun | 219 => 102 | 217 => 140 | 225 => 141 | 224 => 142 | 267 => 143 | 266 => 182 | 314 => 183 | n => n, fun | 9 => 9 | 3 => 3 | 4 => 4 | 5 => 5 | 46 => 172 | 146 => 201 | 51 => 200 | n => n, fun | 1 => 1 | n => n⟩
theorem Tryz.lays219 : Go.Proofs.Lays.n219 Tryz.prog Tryz.lays219_ren := {
  mixed := by kernel_rfl
  f217 := Tryz.func140.trans (congrArg some (by kernel_rfl))
  f219 := Tryz.func102.trans (congrArg some (by kernel_rfl))
  f224 := Tryz.func142.trans (congrArg some (by kernel_rfl))
  f225 := Tryz.func141.trans (congrArg some (by kernel_rfl))
  f266 := Tryz.func182.trans (congrArg some (by kernel_rfl))
  f267 := Tryz.func143.trans (congrArg some (by kernel_rfl))
  f314 := Tryz.func183.trans (congrArg some (by kernel_rfl))
  t3 := Tryz.underlying3
  a3 := Tryz.isAgg3
  z3 := Tryz.sizeOf3
  v3 := Tryz.zeroValue3
  t4 := Tryz.underlying4
  a4 := Tryz.isAgg4
  z4 := Tryz.sizeOf4
  v4 := Tryz.zeroValue4
  t5 := Tryz.underlying5
  a5 := Tryz.isAgg5
  z5 := Tryz.sizeOf5
  v5 := Tryz.zeroValue5
  t9 := Tryz.underlying9
  a9 := Tryz.isAgg9
  z9 := Tryz.sizeOf9
  v9 := Tryz.zeroValue9
  t46 := Tryz.underlying172
  a46 := Tryz.isAgg172
  z46 := Tryz.sizeOf172
  v46 := Tryz.zeroValue172
  t51 := Tryz.underlying200
  a51 := Tryz.isAgg200
  z51 := Tryz.sizeOf200
  v51 := Tryz.zeroValue200
  t146 := Tryz.underlying201
  a146 := Tryz.isAgg201
  z146 := Tryz.sizeOf201
  v146 := Tryz.zeroValue201
  g1 := by kernel_rfl }
open Go.RowKit Go.Lib in
theorem Tryz.stringslite_Index_one (s : ByteArray) (c : UInt8) (w : World) :
    Calls Tryz.prog 102 #[.string s, .string ⟨#[c]⟩] w fun e w' => e = .returned (.int .i64 (Lib.indexByte s.data.toList c)) ∧ w' = w := Any.stringslite_Index_one Tryz.lays219 s c w
def Tryz.lays264_ren : Go.Shelf.Ren := ⟨fun | 264 => 188 | n => n, fun | 53 => 207 | 46 => 172 | n => n, fun | n => n⟩
theorem Tryz.lays264 : Go.Proofs.Lays.n264 Tryz.prog Tryz.lays264_ren := {
  mixed := by kernel_rfl
  f264 := Tryz.func188.trans (congrArg some (by kernel_rfl))
  t46 := Tryz.underlying172
  a46 := Tryz.isAgg172
  z46 := Tryz.sizeOf172
  v46 := Tryz.zeroValue172
  t53 := Tryz.underlying207
  a53 := Tryz.isAgg207
  z53 := Tryz.sizeOf207
  v53 := Tryz.zeroValue207 }
open Go.RowKit Go.Lib in
theorem Tryz.bits_Mul64 (x y : Nat) (hx : x < 18446744073709551616) (hy : y < 18446744073709551616) (w : World) :
    Calls Tryz.prog 188 #[.int .u64 x, .int .u64 y] w fun e w' => e = .returned (.tuple #[.int .u64 ((x * y / 18446744073709551616 : Nat) : Int), .int .u64 ((x * y % 18446744073709551616 : Nat) : Int)]) ∧ w' = w := Any.bits_Mul64 Tryz.lays264 x y hx hy w
def Tryz.lays105_ren : Go.Shelf.Ren := ⟨fun | 105 => 113 | 212 => 150 | 99 => 151 | 165 => 152 | 166 => 111 | 170 => 153 | 169 => 112 | 263 => 187 | 264 => 188 | 206 => 144 | 240 => 149 | 241 => 189 | 276 => 186 | 277 => 211 | n => n, fun | 9 => 9 | 3 => 3 | 4 => 4 | 20 => 20 | 0 => 0 | 46 => 172 | 109 => 183 | 5 => 5 | 72 => 146 | 76 => 149 | 51 => 200 | 146 => 201 | 53 => 207 | 148 => 208 | 70 => 144 | 37 => 22 | 75 => 148 | 127 => 182 | 164 => 204 | 80 => 151 | n => n, fun | n => n⟩
theorem Tryz.lays105 : Go.Proofs.Lays.n105 Tryz.prog Tryz.lays105_ren := {
  mixed := by kernel_rfl
  f99 := Tryz.func151.trans (congrArg some (by kernel_rfl))
  f105 := Tryz.func113.trans (congrArg some (by kernel_rfl))
  f165 := Tryz.func152.trans (congrArg some (by kernel_rfl))
  f166 := Tryz.func111.trans (congrArg some (by kernel_rfl))
  f169 := Tryz.func112.trans (congrArg some (by kernel_rfl))
  f170 := Tryz.func153.trans (congrArg some (by kernel_rfl))
  f206 := Tryz.func144.trans (congrArg some (by kernel_rfl))
  f212 := Tryz.func150.trans (congrArg some (by kernel_rfl))
  f240 := Tryz.func149.trans (congrArg some (by kernel_rfl))
  f241 := Tryz.func189.trans (congrArg some (by kernel_rfl))
  f263 := Tryz.func187.trans (congrArg some (by kernel_rfl))
  f264 := Tryz.func188.trans (congrArg some (by kernel_rfl))
  f276 := Tryz.func186.trans (congrArg some (by kernel_rfl))
  f277 := Tryz.func211.trans (congrArg some (by kernel_rfl))
  t0 := Tryz.underlying0
  a0 := Tryz.isAgg0
  z0 := Tryz.sizeOf0
  v0 := Tryz.zeroValue0
  t3 := Tryz.underlying3
  a3 := Tryz.isAgg3
  z3 := Tryz.sizeOf3
  v3 := Tryz.zeroValue3
  t4 := Tryz.underlying4
  a4 := Tryz.isAgg4
  z4 := Tryz.sizeOf4
  v4 := Tryz.zeroValue4
  t5 := Tryz.underlying5
  a5 := Tryz.isAgg5
  z5 := Tryz.sizeOf5
  v5 := Tryz.zeroValue5
  t9 := Tryz.underlying9
  a9 := Tryz.isAgg9
  z9 := Tryz.sizeOf9
  v9 := Tryz.zeroValue9
  t20 := Tryz.underlying20
  a20 := Tryz.isAgg20
  z20 := Tryz.sizeOf20
  v20 := Tryz.zeroValue20
  t37 := Tryz.underlying22
  a37 := Tryz.isAgg22
  z37 := Tryz.sizeOf22
  v37 := Tryz.zeroValue22
  t46 := Tryz.underlying172
  a46 := Tryz.isAgg172
  z46 := Tryz.sizeOf172
  v46 := Tryz.zeroValue172
  t51 := Tryz.underlying200
  a51 := Tryz.isAgg200
  z51 := Tryz.sizeOf200
  v51 := Tryz.zeroValue200
  t53 := Tryz.underlying207
  a53 := Tryz.isAgg207
  z53 := Tryz.sizeOf207
  v53 := Tryz.zeroValue207
  t70 := Tryz.underlying144
  a70 := Tryz.isAgg144
  z70 := Tryz.sizeOf144
  v70 := Tryz.zeroValue144
  t72 := Tryz.underlying146
  a72 := Tryz.isAgg146
  z72 := Tryz.sizeOf146
  v72 := Tryz.zeroValue146
  t75 := Tryz.underlying148
  a75 := Tryz.isAgg148
  z75 := Tryz.sizeOf148
  v75 := Tryz.zeroValue148
  t76 := Tryz.underlying149
  a76 := Tryz.isAgg149
  z76 := Tryz.sizeOf149
  v76 := Tryz.zeroValue149
  t109 := Tryz.underlying183
  a109 := Tryz.isAgg183
  z109 := Tryz.sizeOf183
  v109 := Tryz.zeroValue183
  t127 := Tryz.underlying182
  a127 := Tryz.isAgg182
  z127 := Tryz.sizeOf182
  v127 := Tryz.zeroValue182
  t146 := Tryz.underlying201
  a146 := Tryz.isAgg201
  z146 := Tryz.sizeOf201
  v146 := Tryz.zeroValue201
  t148 := Tryz.underlying208
  a148 := Tryz.isAgg208
  z148 := Tryz.sizeOf208
  v148 := Tryz.zeroValue208
  t164 := Tryz.underlying204
  a164 := Tryz.isAgg204
  z164 := Tryz.sizeOf204
  v164 := Tryz.zeroValue204 }
theorem Tryz.Builder_Extra_105 : Builder.Extra Tryz.prog Tryz.lays105_ren := {
  sizeBuilder := by kernel_rfl
  liesBuilder := by kernel_rfl
  t5 := Tryz.underlying5
  a5 := Tryz.isAgg5
  z5 := Tryz.sizeOf5
  v5 := Tryz.zeroValue5
  infoByte := by kernel_rfl
  cellsByte := by kernel_rfl
  sizeByte := by kernel_rfl
  neB5 := by decide }
open Go.RowKit Go.Lib in
theorem Tryz.strings_Repeat (s : ByteArray) (c : Nat) (w : World) (hc : c ≤ 9223372036854775807) (hlen : s.size * c ≤ 140737488355328) :
    Calls Tryz.prog 113 #[.string s, .int .i64 c] w fun e w' => e = .returned (.string ⟨(Lib.repeatL s.data.toList c).toArray⟩) ∧ Below w.heap.size w w' := Any.strings_Repeat Tryz.lays105 Tryz.Builder_Extra_105 s c w hc hlen
end Go.Proofs
