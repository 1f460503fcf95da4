/-
  Plain facts behind the laws FnRound, FnModes and FnStep: what they reckon of right fractions with short parts.
-/
import Derived.Test.YtipbdpdmefcofaaDoorFnRoundPlain
namespace Go.Proofs.YtipbdpdmefcofaaDoor
open Go.RowKit

theorem valS_ofZ_small {z : Int} (h : (z.natAbs : Int) < bp 50) : valS (ofZ z) = z := ofZ_val (limbs_length_le _ 50 h)
theorem ofZ_nat {n : Nat} (h : (n : Int) < bp 50) : ofZ (n : Int) = (false, limbs n) := by
  unfold ofZ
  rw [show ((n : Int)).natAbs = n by omega, if_pos (limbs_length_le _ 50 h), decide_eq_false (by omega)]
theorem bp50 : (1000000000 : Int) ≤ bp 50 := by have : bp 1 ≤ bp 50 := bp_mono (by omega); have e : bp 1 = 1000000000 := rfl; omega
theorem make_nat {a b : Nat} (ha : (a : Int) < bp 50) (hb : (b : Int) < bp 50) : makeQ (ofZ (a : Int)) (ofZ (b : Int)) = lowQ false a b := by
  unfold makeQ
  rw [if_pos ⟨ofZ_ok _, ofZ_ok _⟩, ofZ_nat ha, ofZ_nat hb]
  show lowQ (false != false) (nval (limbs a)).toNat (nval (limbs b)).toNat = _
  rw [limbs_val, limbs_val, Int.toNat_natCast, Int.toNat_natCast]
  rfl
/-- an integer as a fraction -/
theorem int_bd {x : SI} {m : Nat} (ok : okS x = true) (hm : m ≤ 18) (h0 : 0 < m) (h : ((valS x).natAbs : Int) < bp m) : (makeQ x (ofZ 1)).2 = true ∧ Bd (makeQ x (ofZ 1)).1 m ∧ ratV (makeQ x (ofZ 1)).1 = ((valS x : Int) : Rat) := by
  have hp := okS_parts ok
  have ha := valS_abs x hp.1
  have eo : ofZ 1 = (false, limbs 1) := ofZ_nat (n := 1) (by have := bp50; omega)
  have e1 : (ofZ 1).1 = false := by rw [eo]
  have e2 : (nval (ofZ 1).2).toNat = 1 := by rw [eo]; show (nval (limbs 1)).toNat = 1; rw [limbs_val]; rfl
  have e : makeQ x (ofZ 1) = lowQ x.1 (nval x.2).toNat 1 := by
    unfold makeQ
    rw [if_pos ⟨ok, ofZ_ok 1⟩, e1, e2]
    cases x.1 <;> rfl
  have hb1 : ((1 : Nat) : Int) < bp m := by
    have h1 : bp 1 ≤ bp m := bp_mono h0
    have : bp 1 = 1000000000 := rfl
    omega
  obtain ⟨h1, h2, h3⟩ := low_bd (n := x.1) (a := (nval x.2).toNat) (b := 1) (by omega) hm (by omega) hb1
  rw [e]
  refine ⟨h1, h2, h3.trans ?_⟩
  have hv : (if x.1 = true then -((nval x.2).toNat : Int) else ((nval x.2).toNat : Int)) = valS x := by
    have hn := nval_ok hp.1
    unfold valS
    rw [Int.toNat_of_nonneg hn]
  rw [hv]
  simp
  grind
theorem round_abs {r : QI} {k : Nat} (h : Bd r k) (m : Int) : ((valS (roundS r m)).natAbs : Int) < bp (k + 1) := by
  have hp := parts_of h.ok
  have t := abs_top h.ok
  have h1 := roundN_le r.1.1 (topN r) (denQ r) m
  have h2 : topN r / denQ r ≤ topN r := Nat.div_le_self ..
  have h3 := h.num
  have h4 := bp_next k
  have h5 := bp_pos k
  have h6 := roundS_val hp m
  have h7 : (valS (roundS r m)).natAbs = roundN r.1.1 (topN r) (denQ r) m := by rw [h6]; split <;> omega
  omega
def unitF : QI := (makeQ (ofZ 1) (ofZ 1)).1
def halfQ : QI := (makeQ (ofZ 1) (ofZ 2)).1
theorem unitF_is : makeQ (ofZ 1) (ofZ 1) = (unitF, true) ∧ okQ unitF = true ∧ numQ unitF = 1 ∧ denQ unitF = 1 ∧ szQ unitF ≤ 1048576 := by
  obtain ⟨h1, h2, h3, h4⟩ := low_is false 1 1 (by decide) (by decide) (by decide)
  have e : makeQ (ofZ 1) (ofZ 1) = lowQ false 1 1 := make_nat (a := 1) (b := 1) (by have := bp50; omega) (by have := bp50; omega)
  have ok := lowQ_ok false 1 1 h1
  have d0 := denQ_pos ok
  refine ⟨pair_eq (by rw [e]; exact h1), by first | (unfold unitF; rw [e]; exact ok) | (unfold halfQ; rw [e]; exact ok), ?_, ?_, ?_⟩
  · unfold unitF; rw [e]
    have hd : denQ (lowQ false 1 1).1 = 1 := by omega
    rw [hd, if_neg (by decide)] at h2
    omega
  · unfold unitF; rw [e]
    omega
  · unfold unitF; rw [e]; exact lowQ_sz _ _ _
theorem halfQ_is : makeQ (ofZ 1) (ofZ 2) = (halfQ, true) ∧ okQ halfQ = true ∧ numQ halfQ = 1 ∧ denQ halfQ = 2 ∧ szQ halfQ ≤ 1048576 := by
  obtain ⟨h1, h2, h3, h4⟩ := low_is false 1 2 (by decide) (by decide) (by decide)
  have e : makeQ (ofZ 1) (ofZ 2) = lowQ false 1 2 := make_nat (a := 1) (b := 2) (by have := bp50; omega) (by have := bp50; omega)
  have ok := lowQ_ok false 1 2 h1
  have d0 := denQ_pos ok
  rw [if_neg (by decide)] at h2
  refine ⟨pair_eq (by rw [e]; exact h1), by first | (unfold unitF; rw [e]; exact ok) | (unfold halfQ; rw [e]; exact ok), ?_, ?_, ?_⟩
  · unfold halfQ; rw [e]; omega
  · unfold halfQ; rw [e]; omega
  · unfold halfQ; rw [e]; exact lowQ_sz _ _ _
/-- the size of a fraction -/
def sizeQ (q : QI) : QI := if cmpQ q oneQ < 0 then (negQ q).1 else q
theorem sizeQ_bd {q : QI} {k : Nat} (h : Bd q k) : Bd (sizeQ q) k ∧ numQ (sizeQ q) = ((numQ q).natAbs : Int) ∧ denQ (sizeQ q) = denQ q := by
  have hs := signQ_of h
  unfold sizeQ
  rw [hs]
  by_cases hn : cmpI (numQ q) 0 < 0
  · rw [if_pos hn]
    have h1 := (cmpI_facts (numQ q) 0).2.2
    obtain ⟨n1, n2, _⟩ := neg_bd h
    have e : negQ q = ((negS q.1, q.2), true) := by unfold negQ; rw [if_pos h.ok]
    have hp := okQ_parts h.ok
    have ev : numQ (negQ q).1 = - numQ q := by
      rw [e]
      have hl : (limbs (-valS q.1).natAbs).length ≤ 50 := by
        have := (natOk_parts (okS_parts hp.1).1).2.1
        have hx := natOk_limbs (okS_parts hp.1).1
        have ha := valS_abs q.1 (okS_parts hp.1).1
        rw [Int.natAbs_neg, show (valS q.1).natAbs = (nval q.1.2).toNat by omega, ← hx]
        exact this
      show valS (negS q.1) = - valS q.1
      unfold negS
      rw [if_pos hp.1, ofZ_val hl]
    refine ⟨n2, by rw [ev]; omega, by rw [e]; rfl⟩
  · rw [if_neg hn]
    have h1 := (cmpI_facts (numQ q) 0).2.2
    exact ⟨h, by omega, rfl⟩
/-- |a| < b out of a * D = e * b, |e| < D -/
theorem part_lt {a b D e : Int} (hb : 0 < b) (h : a * D = e * b) (h1 : -D < e) (h2 : e < D) : -b < a ∧ a < b := by
  have hD : 0 < D := by omega
  have k1 : e * b < D * b := Int.mul_lt_mul_of_pos_right h2 hb
  have k2 : -D * b < e * b := Int.mul_lt_mul_of_pos_right h1 hb
  constructor
  · have : -b * D < a * D := by rw [h, Int.neg_mul, Int.mul_comm b D, ← Int.neg_mul]; exact k2
    exact Int.lt_of_mul_lt_mul_right this (by omega)
  · have : a * D < b * D := by rw [h, Int.mul_comm b D]; exact k1
    exact Int.lt_of_mul_lt_mul_right this (by omega)
theorem part_le {a b D e : Int} (hb : 0 < b) (hD : 0 < D) (h : a * D = e * b) (h1 : -D ≤ 2 * e) (h2 : 2 * e ≤ D) : -b ≤ 2 * a ∧ 2 * a ≤ b := by
  have k1 : 2 * e * b ≤ D * b := Int.mul_le_mul_of_nonneg_right h2 (by omega)
  have k2 : -D * b ≤ 2 * e * b := Int.mul_le_mul_of_nonneg_right h1 (by omega)
  have h' : 2 * a * D = 2 * e * b := by rw [Int.mul_assoc, h, Int.mul_assoc]
  constructor
  · have : -b * D ≤ 2 * a * D := by rw [h', Int.neg_mul, Int.mul_comm b D, ← Int.neg_mul]; exact k2
    exact Int.le_of_mul_le_mul_right this hD
  · have : 2 * a * D ≤ b * D := by rw [h', Int.mul_comm b D]; exact k1
    exact Int.le_of_mul_le_mul_right this hD
/-- all that FnRound reckons at one mode: the rounded number, it as a fraction, the rest, their sum -/
structure RoundAll (r : QI) (m : Int) (x : SI) (b q t z : QI) : Prop where
  ex : roundS r m = x
  ok : okS x = true
  lx : szS x ≤ 1048576
  eb : makeQ x (ofZ 1) = (b, true)
  eq : subQ r b = (q, true)
  et : addQ b q = (t, true)
  tr : cmpQ t r = 0
  okq : okQ q = true
  ez : sizeQ q = z
  zz : cmpQ q oneQ < 0 → negQ q = (z, true)
  z1 : cmpQ z unitF < 0
  zh : 4 ≤ m → m ≤ 6 → cmpQ z halfQ ≤ 0
  wh : wholeB r = decide (cmpQ q oneQ = 0)
  sz : szQ r ≤ 1048576 ∧ szQ b ≤ 1048576 ∧ szQ q ≤ 1048576 ∧ szQ t ≤ 1048576 ∧ szQ z ≤ 1048576
theorem round_all {r : QI} {m : Int} (h : Bd r 3) : ∃ (x : SI) (b q t z : QI), RoundAll r m x b q t z := by
  have okx := roundS_ok r m
  have hab := round_abs h m
  obtain ⟨b1, b2, b3⟩ := int_bd okx (by omega) (by omega) hab
  obtain ⟨q1, q2, q3⟩ := sub_bd h b2 (by omega)
  obtain ⟨t1, t2, t3⟩ := add_bd b2 q2 (by omega)
  obtain ⟨z1, z2, z3⟩ := sizeQ_bd q2
  obtain ⟨e, e1, e2, e3, e4, e5⟩ := round_val h.ok m
  have pr := h.pos
  have pq := q2.pos
  have key : numQ (subQ r (makeQ (roundS r m) (ofZ 1)).1).1 * (denQ r : Int) = -e * (denQ (subQ r (makeQ (roundS r m) (ofZ 1)).1).1 : Int) := by
    generalize (subQ r (makeQ (roundS r m) (ofZ 1)).1).1 = q at *
    have n1 := rat_ne pr
    have n2 := rat_ne pq
    have e1' : ((valS (roundS r m) : Int) : Rat) * ((denQ r : Int) : Rat) = (numQ r : Rat) + (e : Rat) := by exact_mod_cast e1
    rw [b3] at q3
    unfold ratV at q3
    have : (numQ q : Rat) * ((denQ r : Int) : Rat) = -(e : Rat) * ((denQ q : Int) : Rat) := by grind
    exact_mod_cast this
  have hlt := part_lt pq key (by omega) (by omega)
  refine ⟨_, _, _, _, _, rfl, okx, by have := roundS_len r m; unfold szS szI; omega, pair_eq b1, pair_eq q1, pair_eq t1, cmp_same t2 h (by rw [t3, q3]; grind), q2.ok, rfl, fun hn => ?_, ?_, fun h4 h6 => ?_, ?_, ?_⟩
  · have hz := (neg_bd q2).1
    unfold sizeQ
    rw [if_pos hn]
    exact pair_eq hz
  · obtain ⟨u1, u2, u3, u4, u5⟩ := unitF_is
    unfold cmpQ
    rw [if_pos ⟨z1.ok, u2⟩, u3, u4, z2, z3]
    have := (cmpI_facts (((numQ (subQ r (makeQ (roundS r m) (ofZ 1)).1).1).natAbs : Int) * ((1 : Nat) : Int)) (1 * (denQ (subQ r (makeQ (roundS r m) (ofZ 1)).1).1 : Int))).2.2
    omega
  · obtain ⟨u1, u2, u3, u4, u5⟩ := halfQ_is
    have hle := part_le pq pr key (by have := (e4 h4 h6); omega) (by have := (e4 h4 h6); omega)
    unfold cmpQ
    rw [if_pos ⟨z1.ok, u2⟩, u3, u4, z2, z3]
    have := (cmpI_facts (((numQ (subQ r (makeQ (roundS r m) (ofZ 1)).1).1).natAbs : Int) * ((2 : Nat) : Int)) (1 * (denQ (subQ r (makeQ (roundS r m) (ofZ 1)).1).1 : Int))).2.1
    omega
  · unfold wholeB
    rw [h.ok, Bool.true_and, decide_eq_decide, ← whole_iff h.ok, ← e5, signQ_of q2, (cmpI_facts _ _).1]
    generalize (subQ r (makeQ (roundS r m) (ofZ 1)).1).1 = q at *
    constructor
    · intro he
      rw [he] at key
      rcases Int.mul_eq_zero.1 (key.trans (by simp)) with h0 | h0
      · exact h0
      · omega
    · intro he
      rw [he, Int.zero_mul] at key
      rcases Int.mul_eq_zero.1 key.symm with h0 | h0 <;> omega
  · exact ⟨bd_sz h (by omega), bd_sz b2 (by omega), bd_sz q2 (by omega), bd_sz t2 (by omega), bd_sz z1 (by omega)⟩
end Go.Proofs.YtipbdpdmefcofaaDoor
