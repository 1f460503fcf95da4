/-
  Plain facts behind the laws of fractions: fractions of few limbs, reckoned as rational numbers.
  Plain facts behind the laws of chapter 7: how far a rounded number is off, and in which order the modes stand.
  Plain facts behind the laws FnRound, FnModes and FnStep: what they reckon of right fractions with short parts.
  Plain facts behind the laws FnModes and FnStep: the modes' order and their mirror images, and what RoundTo makes of an integer.
  Chapter 7: the modes, their names and impl's table of them.
  Chapter 7: results that lie in their boxes; quotient and rest of a fraction; sums of limbs.
  RatRest: for a right fraction both the rounded number and the rest are right fractions.
  Chapter 6 of package spec: what its functions on fractions return.
  Chapter 6 of package spec: RatMake, RatInt, RatZero, RatCmp and RatSign.
-/
import Derived.Laws.EntriesVeiled
import Derived.Deep.RegionHeld3
import Derived.Deep.DeepCutAuto
import Derived.Laws.OwnMore
import Derived.Test.YthfkdofnoomhaaaGreatDoorJB3
namespace Go.Proofs.YthfkdofnoomhaaaGreatDoor
open Go.RowKit

/-- the rational number that a fraction stands for -/
def ratV (q : QI) : Rat := (numQ q : Rat) / ((denQ q : Int) : Rat)
/-- a right fraction whose parts are short -/
structure Bd (q : QI) (m : Nat) : Prop where
  ok : okQ q = true
  num : ((numQ q).natAbs : Int) < bp m
  den : (denQ q : Int) < bp m
theorem Bd.pos {q : QI} {m : Nat} (h : Bd q m) : (0 : Int) < (denQ q : Int) := by have := denQ_pos h.ok; omega
theorem Bd.mono {q : QI} {m n : Nat} (h : Bd q m) (hm : m ≤ n) : Bd q n := ⟨h.ok, Int.lt_of_lt_of_le h.num (bp_mono hm), Int.lt_of_lt_of_le h.den (bp_mono hm)⟩
theorem rat_ne {d : Int} (h : 0 < d) : (d : Rat) ≠ 0 := by
  have : d ≠ 0 := by omega
  exact_mod_cast this
theorem ratV_of {q : QI} {N D : Int} (hq : okQ q = true) (hD : 0 < D) (h : numQ q * D = N * denQ q) : ratV q = (N : Rat) / (D : Rat) := by
  have h1 : (0 : Int) < (denQ q : Int) := by have := denQ_pos hq; omega
  have n1 := rat_ne h1
  have n2 := rat_ne hD
  have h' : (numQ q : Rat) * (D : Rat) = (N : Rat) * ((denQ q : Int) : Rat) := by exact_mod_cast h
  unfold ratV
  grind
theorem low_is (n : Bool) (a b : Nat) (hb : b ≠ 0) (ha : (a : Int) < bp 18) (hb2 : (b : Int) < bp 18) :
    (lowQ n a b).2 = true ∧ numQ (lowQ n a b).1 * b = (if n = true then -(a : Int) else a) * denQ (lowQ n a b).1 ∧ (numQ (lowQ n a b).1).natAbs ≤ a ∧ denQ (lowQ n a b).1 ≤ b := by
  have hg : 0 < Nat.gcd a b := Nat.gcd_pos_of_pos_right _ (by omega)
  obtain ⟨a', ea⟩ := Nat.gcd_dvd_left a b
  obtain ⟨b', eb⟩ := Nat.gcd_dvd_right a b
  have qa : a / Nat.gcd a b = a' := by rw [Nat.div_eq_of_eq_mul_right hg ea]
  have qb : b / Nat.gcd a b = b' := by rw [Nat.div_eq_of_eq_mul_right hg eb]
  have la : a' ≤ a := by rw [← qa]; exact Nat.div_le_self ..
  have lb : b' ≤ b := by rw [← qb]; exact Nat.div_le_self ..
  have l1 : (limbs a').length ≤ 18 := limbs_length_le _ 18 (by omega)
  have l2 : (limbs b').length ≤ 18 := limbs_length_le _ 18 (by omega)
  have e : lowQ n a b = ((mkS n (limbs a'), limbs b'), true) := by
    unfold lowQ
    rw [qa, qb, if_pos ⟨hb, l1, l2⟩]
  have ev : numQ ((mkS n (limbs a'), limbs b') : QI) = if n = true then -(a' : Int) else a' := by
    show valS (mkS n (limbs a')) = _
    rw [mkS_limbs, ofZ_val]
    rw [show (if n = true then -(a' : Int) else a').natAbs = a' by split <;> omega]
    omega
  have ed : denQ ((mkS n (limbs a'), limbs b') : QI) = b' := by
    show (nval (limbs b')).toNat = b'
    rw [limbs_val, Int.toNat_natCast]
  rw [e]
  refine ⟨rfl, ?_, ?_, ?_⟩
  · rw [ev, ed]
    have key : (a' : Int) * b = a * b' := by
      have h1 : a' * b = a * b' := by
        have e1 : a * b' = (Nat.gcd a b * a') * b' := by rw [← ea]
        have e2 : a' * b = a' * (Nat.gcd a b * b') := by rw [← eb]
        rw [e1, e2]
        ac_rfl
      exact_mod_cast h1
    split
    · rw [Int.neg_mul, Int.neg_mul, key]
    · exact key
  · rw [ev]; split <;> omega
  · rw [ed]; exact lb
theorem low_bd {n : Bool} {a b m : Nat} (hb : b ≠ 0) (hm : m ≤ 18) (ha : (a : Int) < bp m) (hb2 : (b : Int) < bp m) :
    (lowQ n a b).2 = true ∧ Bd (lowQ n a b).1 m ∧ ratV (lowQ n a b).1 = ((if n = true then -(a : Int) else a : Int) : Rat) / ((b : Int) : Rat) := by
  have h18 := bp_mono hm
  obtain ⟨h1, h2, h3, h4⟩ := low_is n a b hb (by omega) (by omega)
  have ok := lowQ_ok n a b h1
  exact ⟨h1, ⟨ok, by omega, by omega⟩, ratV_of ok (by omega) h2⟩
theorem pair_eq {Q : QI × Bool} (h : Q.2 = true) : Q = (Q.1, true) := by rw [← h]
theorem abs_top {q : QI} (h : okQ q = true) : topN q = (numQ q).natAbs := by
  have := (parts_of h).top
  rw [this]
  split <;> omega
theorem mul_lt {a b : Nat} {i j : Nat} (ha : (a : Int) < bp i) (hb : (b : Int) < bp j) : ((a * b : Nat) : Int) < bp (i + j) := by
  rw [bp_add, Int.natCast_mul]
  have p := bp_pos i
  have q := bp_pos j
  have h1 : (a : Int) * b ≤ (bp i - 1) * b := Int.mul_le_mul_of_nonneg_right (by omega) (by omega)
  have h2 : (bp i - 1) * (b : Int) ≤ (bp i - 1) * (bp j - 1) := Int.mul_le_mul_of_nonneg_left (by omega) (by omega)
  have h3 : (bp i - 1) * (bp j - 1) = bp i * bp j - bp i - bp j + 1 := by grind
  omega
theorem bp_next (m : Nat) : bp m + bp m ≤ bp (m + 1) := by
  have e : bp (m + 1) = 1000000000 * bp m := rfl
  have p := bp_pos m
  omega
theorem add_bd {r s : QI} {i k : Nat} (hr : Bd r i) (hs : Bd s k) (h : i + k + 1 ≤ 18) : (addQ r s).2 = true ∧ Bd (addQ r s).1 (i + k + 1) ∧ ratV (addQ r s).1 = ratV r + ratV s := by
  have e : addQ r s = lowQ (decide (numQ r * denQ s + numQ s * denQ r < 0)) (numQ r * denQ s + numQ s * denQ r).natAbs (denQ r * denQ s) := by unfold addQ; rw [if_pos ⟨hr.ok, hs.ok⟩]
  have p1 := hr.pos
  have p2 := hs.pos
  have b1 := mul_lt hr.num hs.den
  have b2 := mul_lt hs.num hr.den
  rw [Nat.add_comm k i] at b2
  have b3 := mul_lt hr.den hs.den
  have n1 := bp_next (i + k)
  have p0 := bp_pos (i + k)
  have ba : ((numQ r * denQ s + numQ s * denQ r).natAbs : Int) < bp (i + k + 1) := by
    have h1 : (numQ r * (denQ s : Int)).natAbs = (numQ r).natAbs * denQ s := by rw [Int.natAbs_mul, Int.natAbs_natCast]
    have h2 : (numQ s * (denQ r : Int)).natAbs = (numQ s).natAbs * denQ r := by rw [Int.natAbs_mul, Int.natAbs_natCast]
    omega
  have hd : denQ r * denQ s ≠ 0 := Nat.mul_ne_zero (by omega) (by omega)
  obtain ⟨h1, h2, h3⟩ := low_bd (n := decide (numQ r * denQ s + numQ s * denQ r < 0)) hd h ba (by omega)
  rw [e]
  refine ⟨h1, h2, h3.trans ?_⟩
  have hz : (if decide (numQ r * (denQ s : Int) + numQ s * (denQ r : Int) < 0) = true then -((numQ r * (denQ s : Int) + numQ s * (denQ r : Int)).natAbs : Int) else ((numQ r * (denQ s : Int) + numQ s * (denQ r : Int)).natAbs : Int)) = numQ r * (denQ s : Int) + numQ s * (denQ r : Int) := by
    generalize numQ r * (denQ s : Int) + numQ s * (denQ r : Int) = z
    by_cases hz : z < 0
    · rw [decide_eq_true hz, if_pos rfl]; omega
    · rw [decide_eq_false hz, if_neg (by decide)]; omega
  rw [hz]
  have n1 := rat_ne p1
  have n2 := rat_ne p2
  unfold ratV
  rw [Int.natCast_mul]
  simp only [Rat.intCast_add, Rat.intCast_mul]
  grind
theorem sign_mul (x y : Bool) (X Y : Int) : (if (x != y) = true then -(X * Y) else X * Y) = (if x = true then -X else X) * (if y = true then -Y else Y) := by
  cases x <;> cases y <;> simp [Int.neg_mul, Int.mul_neg]
theorem mul_bd {r s : QI} {i k : Nat} (hr : Bd r i) (hs : Bd s k) (h : i + k ≤ 18) : (mulQ r s).2 = true ∧ Bd (mulQ r s).1 (i + k) ∧ ratV (mulQ r s).1 = ratV r * ratV s := by
  have e : mulQ r s = lowQ (r.1.1 != s.1.1) (topN r * topN s) (denQ r * denQ s) := by unfold mulQ topN; rw [if_pos ⟨hr.ok, hs.ok⟩]
  have p1 := hr.pos
  have p2 := hs.pos
  have t1 := abs_top hr.ok
  have t2 := abs_top hs.ok
  have b1 := mul_lt hr.num hs.num
  rw [← t1, ← t2] at b1
  have hd : denQ r * denQ s ≠ 0 := Nat.mul_ne_zero (by omega) (by omega)
  obtain ⟨h1, h2, h3⟩ := low_bd (n := r.1.1 != s.1.1) hd h b1 (mul_lt hr.den hs.den)
  rw [e]
  refine ⟨h1, h2, h3.trans ?_⟩
  have n1 := rat_ne p1
  have n2 := rat_ne p2
  rw [Int.natCast_mul, sign_mul, ← (parts_of hr.ok).top, ← (parts_of hs.ok).top, Int.natCast_mul]
  unfold ratV
  simp only [Rat.intCast_mul]
  grind
theorem div_bd {r s : QI} {i k : Nat} (hr : Bd r i) (hs : Bd s k) (h : i + k ≤ 18) (h0 : numQ s ≠ 0) : (divQ r s).2 = true ∧ Bd (divQ r s).1 (i + k) ∧ ratV (divQ r s).1 * ratV s = ratV r := by
  have e : divQ r s = lowQ (r.1.1 != s.1.1) (topN r * denQ s) (denQ r * topN s) := by unfold divQ topN; rw [if_pos ⟨hr.ok, hs.ok⟩]
  have p1 := hr.pos
  have p2 := hs.pos
  have t1 := abs_top hr.ok
  have t2 := abs_top hs.ok
  have b1 := mul_lt hr.num hs.den
  rw [← t1] at b1
  have b2 := mul_lt hr.den hs.num
  rw [← t2] at b2
  have hd : denQ r * topN s ≠ 0 := Nat.mul_ne_zero (by omega) (by omega)
  obtain ⟨h1, h2, h3⟩ := low_bd (n := r.1.1 != s.1.1) hd h b1 b2
  rw [e]
  refine ⟨h1, h2, ?_⟩
  have n1 := rat_ne p1
  have n2 := rat_ne p2
  have n3 := rat_ne (show (0 : Int) < (topN s : Int) by omega)
  have q1 := (parts_of hr.ok).top
  have q2 := (parts_of hs.ok).top
  rw [h3, Int.natCast_mul, Int.natCast_mul]
  unfold ratV
  rw [q1, q2]
  generalize r.1.1 = x
  generalize s.1.1 = y
  cases x <;> cases y <;> simp only [bne_self_eq_false, Bool.false_bne, Bool.true_bne, Bool.not_false, if_true, if_false, Bool.false_eq_true, Rat.intCast_mul, Rat.intCast_neg] <;> grind
theorem negS_mag {x : SI} (h : okS x = true) : (negS x).2 = x.2 := by
  have hp := okS_parts h
  have hl := (natOk_parts hp.1).2.1
  have ha := valS_abs x hp.1
  have hx := natOk_limbs hp.1
  unfold negS
  rw [if_pos h]
  have e : (-valS x).natAbs = (nval x.2).toNat := by rw [Int.natAbs_neg]; omega
  unfold ofZ
  rw [e, ← hx, if_pos hl]
theorem neg_bd {s : QI} {k : Nat} (hs : Bd s k) : (negQ s).2 = true ∧ Bd (negQ s).1 k ∧ ratV (negQ s).1 = - ratV s := by
  have hp := okQ_parts hs.ok
  have hm := negS_mag hp.1
  have e : negQ s = ((negS s.1, s.2), true) := by unfold negQ; rw [if_pos hs.ok]
  have ev : numQ ((negS s.1, s.2) : QI) = - numQ s := by
    have hl : (limbs (-valS s.1).natAbs).length ≤ 50 := by
      have := (natOk_parts (okS_parts hp.1).1).2.1
      have hx := natOk_limbs (okS_parts hp.1).1
      have ha := valS_abs s.1 (okS_parts hp.1).1
      rw [Int.natAbs_neg, show (valS s.1).natAbs = (nval s.1.2).toNat by omega, ← hx]
      exact this
    show valS (negS s.1) = - valS s.1
    unfold negS
    rw [if_pos hp.1, ofZ_val hl]
  have hok : okQ ((negS s.1, s.2) : QI) = true := by
    have hn : okS (negS s.1) = true := by unfold negS; rw [if_pos hp.1]; exact ofZ_ok _
    unfold okQ
    simp only
    rw [hn, hp.2.1, hm]
    simp only [Bool.true_and, decide_eq_true_eq]
    exact ⟨hp.2.2.1, hp.2.2.2.1, hp.2.2.2.2.1, hp.2.2.2.2.2⟩
  rw [e]
  refine ⟨rfl, ⟨hok, by rw [ev, Int.natAbs_neg]; exact hs.num, hs.den⟩, ?_⟩
  unfold ratV
  rw [ev, show denQ ((negS s.1, s.2) : QI) = denQ s from rfl]
  simp only [Rat.intCast_neg]
  grind
theorem sub_bd {r s : QI} {i k : Nat} (hr : Bd r i) (hs : Bd s k) (h : i + k + 1 ≤ 18) : (subQ r s).2 = true ∧ Bd (subQ r s).1 (i + k + 1) ∧ ratV (subQ r s).1 = ratV r - ratV s := by
  obtain ⟨n1, n2, n3⟩ := neg_bd hs
  have e : subQ r s = addQ r (negQ s).1 := by unfold subQ; rw [if_pos n1]
  obtain ⟨a1, a2, a3⟩ := add_bd hr n2 h
  rw [e]
  exact ⟨a1, a2, by rw [a3, n3]; grind⟩
theorem cross_of {r s : QI} {i k : Nat} (hr : Bd r i) (hs : Bd s k) (h : ratV r = ratV s) : numQ r * denQ s = numQ s * denQ r := by
  have n1 := rat_ne hr.pos
  have n2 := rat_ne hs.pos
  unfold ratV at h
  have h' : (numQ r : Rat) * ((denQ s : Int) : Rat) = (numQ s : Rat) * ((denQ r : Int) : Rat) := by grind
  exact_mod_cast h'
theorem cmp_same {r s : QI} {i k : Nat} (hr : Bd r i) (hs : Bd s k) (h : ratV r = ratV s) : cmpQ r s = 0 := by
  unfold cmpQ
  rw [if_pos ⟨hr.ok, hs.ok⟩, cross_of hr hs h, cmpI_self]
theorem cmpQ_turn {r s : QI} {i k : Nat} (hr : Bd r i) (hs : Bd s k) : cmpQ r s = -cmpQ s r := by
  unfold cmpQ
  rw [if_pos ⟨hr.ok, hs.ok⟩, if_pos ⟨hs.ok, hr.ok⟩, cmpI_turn]
theorem oneQ_parts : numQ oneQ = 0 ∧ denQ oneQ = 1 := ⟨rfl, rfl⟩
theorem signQ_of {r : QI} {i : Nat} (hr : Bd r i) : cmpQ r oneQ = cmpI (numQ r) 0 := by
  unfold cmpQ
  rw [if_pos ⟨hr.ok, oneQ_ok⟩, oneQ_parts.1, oneQ_parts.2, Int.zero_mul]
  simp
theorem cmpI_facts (X Y : Int) : (cmpI X Y = 0 ↔ X = Y) ∧ (cmpI X Y ≤ 0 ↔ X ≤ Y) ∧ (0 ≤ cmpI X Y ↔ Y ≤ X) := by
  unfold cmpI
  split
  · omega
  · split <;> omega
theorem order_of {r s x : QI} {i k m : Nat} (hr : Bd r i) (hs : Bd s k) (hx : Bd x m) (h : ratV x = ratV s - ratV r) : (cmpQ r s ≤ 0) ↔ (0 ≤ cmpQ x oneQ) := by
  rw [signQ_of hx, (cmpI_facts _ _).2.2]
  have e : cmpQ r s = cmpI (numQ r * denQ s) (numQ s * denQ r) := by unfold cmpQ; rw [if_pos ⟨hr.ok, hs.ok⟩]
  rw [e, (cmpI_facts _ _).2.1]
  have p1 := hr.pos
  have p2 := hs.pos
  have p3 := hx.pos
  have n1 := rat_ne p1
  have n2 := rat_ne p2
  have n3 := rat_ne p3
  have key : numQ x * ((denQ s : Int) * (denQ r : Int)) = (numQ s * (denQ r : Int) - numQ r * (denQ s : Int)) * (denQ x : Int) := by
    unfold ratV at h
    have h' : (numQ x : Rat) * (((denQ s : Int) : Rat) * ((denQ r : Int) : Rat)) = ((numQ s : Rat) * ((denQ r : Int) : Rat) - (numQ r : Rat) * ((denQ s : Int) : Rat)) * ((denQ x : Int) : Rat) := by grind
    exact_mod_cast h'
  have pd : 0 < (denQ s : Int) * (denQ r : Int) := Int.mul_pos p2 p1
  generalize numQ s * (denQ r : Int) = B at *
  generalize numQ r * (denQ s : Int) = A at *
  constructor
  · intro hh
    have h1 : 0 ≤ (B - A) * (denQ x : Int) := Int.mul_nonneg (by omega) (by omega)
    rw [← key] at h1
    exact Int.nonneg_of_mul_nonneg_left h1 pd
  · intro hh
    have h1 : 0 ≤ numQ x * ((denQ s : Int) * (denQ r : Int)) := Int.mul_nonneg hh (by omega)
    rw [key] at h1
    have := Int.nonneg_of_mul_nonneg_left h1 p3
    omega
theorem bd_len {q : QI} {m : Nat} (h : Bd q m) : q.1.2.length ≤ m ∧ q.2.length ≤ m := by
  have p := parts_of h.ok
  have t := abs_top h.ok
  have h1 := h.num
  constructor
  · rw [p.n]; exact limbs_length_le _ m (by omega)
  · rw [p.d]; exact limbs_length_le _ m h.den
theorem bd_sz {q : QI} {m : Nat} (h : Bd q m) (hm : m ≤ 18) : szQ q ≤ 1048576 := by
  have := bd_len h
  unfold szQ szS szI
  omega
end Go.Proofs.YthfkdofnoomhaaaGreatDoor

namespace Go.Proofs.YthfkdofnoomhaaaGreatDoor
open Go.RowKit

/-- what rounding makes of the size: the whole part, or one more where something is left over -/
theorem roundN_cases (neg : Bool) (A D : Nat) (m : Int) : (roundN neg A D m = A / D ∧ (A % D = 0 ∨ awayB neg (A / D) (A % D) D m = false)) ∨ (roundN neg A D m = A / D + 1 ∧ A % D ≠ 0 ∧ awayB neg (A / D) (A % D) D m = true) := by
  unfold roundN
  by_cases h : A % D ≠ 0 ∧ awayB neg (A / D) (A % D) D m = true
  · rw [if_pos h]; exact .inr ⟨rfl, h.1, h.2⟩
  · rw [if_neg h]
    refine .inl ⟨by omega, ?_⟩
    by_cases h0 : A % D = 0
    · exact .inl h0
    · refine .inr ?_
      rcases Bool.eq_false_or_eq_true (awayB neg (A / D) (A % D) D m) with e | e
      · exact absurd ⟨h0, e⟩ h
      · exact e
theorem near_away {neg : Bool} {Q R D : Nat} {m : Int} (h4 : 4 ≤ m) (h6 : m ≤ 6) : (awayB neg Q R D m = true → D ≤ 2 * R) ∧ (awayB neg Q R D m = false → 2 * R ≤ D) := by
  rcases (show m = 4 ∨ m = 5 ∨ m = 6 by omega) with rfl | rfl | rfl
  · show (decide (D < 2 * R) = true → _) ∧ (decide (D < 2 * R) = false → _)
    rw [decide_eq_true_eq, decide_eq_false_iff_not]; omega
  · show (decide (D ≤ 2 * R) = true → _) ∧ (decide (D ≤ 2 * R) = false → _)
    rw [decide_eq_true_eq, decide_eq_false_iff_not]; omega
  · show ((decide (D < 2 * R) || (decide (2 * R = D) && decide (Q % 2 = 1))) = true → _) ∧ ((decide (D < 2 * R) || (decide (2 * R = D) && decide (Q % 2 = 1))) = false → _)
    rw [Bool.or_eq_true, Bool.or_eq_false_iff, Bool.and_eq_true, decide_eq_true_eq, decide_eq_true_eq, decide_eq_false_iff_not]
    omega
/-- the rounded size times the denominator is off by less than one, by at most a half in the nearest modes, and not at all where nothing is left over -/
theorem round_off (neg : Bool) (A D : Nat) (m : Int) (hD : 0 < D) : ∃ e : Int, (roundN neg A D m : Int) * D = A + e ∧ -(D : Int) < e ∧ e < D ∧ (4 ≤ m → m ≤ 6 → 2 * e ≤ D ∧ -(D : Int) ≤ 2 * e) ∧ (e = 0 ↔ A % D = 0) := by
  have h1 := Nat.div_add_mod A D
  have h2 := Nat.mod_lt A hD
  rcases roundN_cases neg A D m with ⟨hk, hc⟩ | ⟨hk, h0, hc⟩
  · refine ⟨-((A % D : Nat) : Int), ?_, by omega, by omega, fun h4 h6 => ?_, by omega⟩
    · rw [hk, Int.mul_comm, ← Int.natCast_mul]; omega
    · rcases hc with hc | hc
      · omega
      · have := (near_away h4 h6).2 hc; omega
  · refine ⟨(D : Int) - ((A % D : Nat) : Int), ?_, by omega, by omega, fun h4 h6 => ?_, by omega⟩
    · rw [hk, Int.natCast_add, Int.add_mul, Int.mul_comm, ← Int.natCast_mul]; omega
    · have := (near_away h4 h6).1 hc; omega
theorem roundS_val {r : QI} (h : Parts r) (m : Int) : valS (roundS r m) = if r.1.1 = true then -(roundN r.1.1 (topN r) (denQ r) m : Int) else roundN r.1.1 (topN r) (denQ r) m := by
  unfold roundS
  rw [mkS_limbs, ofZ_val]
  have := round_len h m
  rw [show (if r.1.1 = true then -(roundN r.1.1 (topN r) (denQ r) m : Int) else roundN r.1.1 (topN r) (denQ r) m).natAbs = roundN r.1.1 (topN r) (denQ r) m by split <;> omega]
  omega
/-- the value of a rounded fraction, against the fraction -/
theorem round_val {r : QI} (h : okQ r = true) (m : Int) : ∃ e : Int, valS (roundS r m) * denQ r = numQ r + e ∧ -(denQ r : Int) < e ∧ e < denQ r ∧ (4 ≤ m → m ≤ 6 → 2 * e ≤ denQ r ∧ -(denQ r : Int) ≤ 2 * e) ∧ (e = 0 ↔ topN r % denQ r = 0) := by
  have hp := parts_of h
  obtain ⟨e, h1, h2, h3, h4, h5⟩ := round_off r.1.1 (topN r) (denQ r) m hp.pos
  rw [roundS_val hp, hp.top]
  generalize roundN r.1.1 (topN r) (denQ r) m = k at *
  cases r.1.1 with
  | true => exact ⟨-e, by rw [if_pos rfl, if_pos rfl, Int.neg_mul, h1]; omega, by omega, by omega, fun a b => by have := h4 a b; omega, by omega⟩
  | false => exact ⟨e, by rw [if_neg (by decide), if_neg (by decide), h1], by omega, by omega, h4, h5⟩
/-- in lowest terms nothing is left over only of an integer -/
theorem whole_iff {r : QI} (h : okQ r = true) : (topN r % denQ r = 0) ↔ denQ r = 1 := by
  have hp := okQ_parts h
  have hd := denQ_pos h
  have hg : Nat.gcd (topN r) (denQ r) = 1 := hp.2.2.2.2.2
  constructor
  · intro h0
    have : denQ r ∣ topN r := Nat.dvd_of_mod_eq_zero h0
    rw [Nat.gcd_eq_right this] at hg
    exact hg
  · intro h1; rw [h1, Nat.mod_one]
end Go.Proofs.YthfkdofnoomhaaaGreatDoor

namespace Go.Proofs.YthfkdofnoomhaaaGreatDoor
open Go.RowKit

theorem valS_ofZ_small {z : Int} (h : (z.natAbs : Int) < bp 50) : valS (ofZ z) = z := ofZ_val (limbs_length_le _ 50 h)
theorem ofZ_nat {n : Nat} (h : (n : Int) < bp 50) : ofZ (n : Int) = (false, limbs n) := by
  unfold ofZ
  rw [show ((n : Int)).natAbs = n by omega, if_pos (limbs_length_le _ 50 h), decide_eq_false (by omega)]
theorem bp50 : (1000000000 : Int) ≤ bp 50 := by have : bp 1 ≤ bp 50 := bp_mono (by omega); have e : bp 1 = 1000000000 := rfl; omega
theorem make_nat {a b : Nat} (ha : (a : Int) < bp 50) (hb : (b : Int) < bp 50) : makeQ (ofZ (a : Int)) (ofZ (b : Int)) = lowQ false a b := by
  unfold makeQ
  rw [if_pos ⟨ofZ_ok _, ofZ_ok _⟩, ofZ_nat ha, ofZ_nat hb]
  show lowQ (false != false) (nval (limbs a)).toNat (nval (limbs b)).toNat = _
  rw [limbs_val, limbs_val, Int.toNat_natCast, Int.toNat_natCast]
  rfl
/-- an integer as a fraction -/
theorem int_bd {x : SI} {m : Nat} (ok : okS x = true) (hm : m ≤ 18) (h0 : 0 < m) (h : ((valS x).natAbs : Int) < bp m) : (makeQ x (ofZ 1)).2 = true ∧ Bd (makeQ x (ofZ 1)).1 m ∧ ratV (makeQ x (ofZ 1)).1 = ((valS x : Int) : Rat) := by
  have hp := okS_parts ok
  have ha := valS_abs x hp.1
  have eo : ofZ 1 = (false, limbs 1) := ofZ_nat (n := 1) (by have := bp50; omega)
  have e1 : (ofZ 1).1 = false := by rw [eo]
  have e2 : (nval (ofZ 1).2).toNat = 1 := by rw [eo]; show (nval (limbs 1)).toNat = 1; rw [limbs_val]; rfl
  have e : makeQ x (ofZ 1) = lowQ x.1 (nval x.2).toNat 1 := by
    unfold makeQ
    rw [if_pos ⟨ok, ofZ_ok 1⟩, e1, e2]
    cases x.1 <;> rfl
  have hb1 : ((1 : Nat) : Int) < bp m := by
    have h1 : bp 1 ≤ bp m := bp_mono h0
    have : bp 1 = 1000000000 := rfl
    omega
  obtain ⟨h1, h2, h3⟩ := low_bd (n := x.1) (a := (nval x.2).toNat) (b := 1) (by omega) hm (by omega) hb1
  rw [e]
  refine ⟨h1, h2, h3.trans ?_⟩
  have hv : (if x.1 = true then -((nval x.2).toNat : Int) else ((nval x.2).toNat : Int)) = valS x := by
    have hn := nval_ok hp.1
    unfold valS
    rw [Int.toNat_of_nonneg hn]
  rw [hv]
  simp
  grind
theorem round_abs {r : QI} {k : Nat} (h : Bd r k) (m : Int) : ((valS (roundS r m)).natAbs : Int) < bp (k + 1) := by
  have hp := parts_of h.ok
  have t := abs_top h.ok
  have h1 := roundN_le r.1.1 (topN r) (denQ r) m
  have h2 : topN r / denQ r ≤ topN r := Nat.div_le_self ..
  have h3 := h.num
  have h4 := bp_next k
  have h5 := bp_pos k
  have h6 := roundS_val hp m
  have h7 : (valS (roundS r m)).natAbs = roundN r.1.1 (topN r) (denQ r) m := by rw [h6]; split <;> omega
  omega
def unitQ : QI := (makeQ (ofZ 1) (ofZ 1)).1
def halfQ : QI := (makeQ (ofZ 1) (ofZ 2)).1
theorem unitQ_is : makeQ (ofZ 1) (ofZ 1) = (unitQ, true) ∧ okQ unitQ = true ∧ numQ unitQ = 1 ∧ denQ unitQ = 1 ∧ szQ unitQ ≤ 1048576 := by
  obtain ⟨h1, h2, h3, h4⟩ := low_is false 1 1 (by decide) (by decide) (by decide)
  have e : makeQ (ofZ 1) (ofZ 1) = lowQ false 1 1 := make_nat (a := 1) (b := 1) (by have := bp50; omega) (by have := bp50; omega)
  have ok := lowQ_ok false 1 1 h1
  have d0 := denQ_pos ok
  refine ⟨pair_eq (by rw [e]; exact h1), by first | (unfold unitQ; rw [e]; exact ok) | (unfold halfQ; rw [e]; exact ok), ?_, ?_, ?_⟩
  · unfold unitQ; rw [e]
    have hd : denQ (lowQ false 1 1).1 = 1 := by omega
    rw [hd, if_neg (by decide)] at h2
    omega
  · unfold unitQ; rw [e]
    omega
  · unfold unitQ; rw [e]; exact lowQ_sz _ _ _
theorem halfQ_is : makeQ (ofZ 1) (ofZ 2) = (halfQ, true) ∧ okQ halfQ = true ∧ numQ halfQ = 1 ∧ denQ halfQ = 2 ∧ szQ halfQ ≤ 1048576 := by
  obtain ⟨h1, h2, h3, h4⟩ := low_is false 1 2 (by decide) (by decide) (by decide)
  have e : makeQ (ofZ 1) (ofZ 2) = lowQ false 1 2 := make_nat (a := 1) (b := 2) (by have := bp50; omega) (by have := bp50; omega)
  have ok := lowQ_ok false 1 2 h1
  have d0 := denQ_pos ok
  rw [if_neg (by decide)] at h2
  refine ⟨pair_eq (by rw [e]; exact h1), by first | (unfold unitQ; rw [e]; exact ok) | (unfold halfQ; rw [e]; exact ok), ?_, ?_, ?_⟩
  · unfold halfQ; rw [e]; omega
  · unfold halfQ; rw [e]; omega
  · unfold halfQ; rw [e]; exact lowQ_sz _ _ _
/-- the size of a fraction -/
def sizeQ (q : QI) : QI := if cmpQ q oneQ < 0 then (negQ q).1 else q
theorem sizeQ_bd {q : QI} {k : Nat} (h : Bd q k) : Bd (sizeQ q) k ∧ numQ (sizeQ q) = ((numQ q).natAbs : Int) ∧ denQ (sizeQ q) = denQ q := by
  have hs := signQ_of h
  unfold sizeQ
  rw [hs]
  by_cases hn : cmpI (numQ q) 0 < 0
  · rw [if_pos hn]
    have h1 := (cmpI_facts (numQ q) 0).2.2
    obtain ⟨n1, n2, _⟩ := neg_bd h
    have e : negQ q = ((negS q.1, q.2), true) := by unfold negQ; rw [if_pos h.ok]
    have hp := okQ_parts h.ok
    have ev : numQ (negQ q).1 = - numQ q := by
      rw [e]
      have hl : (limbs (-valS q.1).natAbs).length ≤ 50 := by
        have := (natOk_parts (okS_parts hp.1).1).2.1
        have hx := natOk_limbs (okS_parts hp.1).1
        have ha := valS_abs q.1 (okS_parts hp.1).1
        rw [Int.natAbs_neg, show (valS q.1).natAbs = (nval q.1.2).toNat by omega, ← hx]
        exact this
      show valS (negS q.1) = - valS q.1
      unfold negS
      rw [if_pos hp.1, ofZ_val hl]
    refine ⟨n2, by rw [ev]; omega, by rw [e]; rfl⟩
  · rw [if_neg hn]
    have h1 := (cmpI_facts (numQ q) 0).2.2
    exact ⟨h, by omega, rfl⟩
/-- |a| < b out of a * D = e * b, |e| < D -/
theorem part_lt {a b D e : Int} (hb : 0 < b) (h : a * D = e * b) (h1 : -D < e) (h2 : e < D) : -b < a ∧ a < b := by
  have hD : 0 < D := by omega
  have k1 : e * b < D * b := Int.mul_lt_mul_of_pos_right h2 hb
  have k2 : -D * b < e * b := Int.mul_lt_mul_of_pos_right h1 hb
  constructor
  · have : -b * D < a * D := by rw [h, Int.neg_mul, Int.mul_comm b D, ← Int.neg_mul]; exact k2
    exact Int.lt_of_mul_lt_mul_right this (by omega)
  · have : a * D < b * D := by rw [h, Int.mul_comm b D]; exact k1
    exact Int.lt_of_mul_lt_mul_right this (by omega)
theorem part_le {a b D e : Int} (hb : 0 < b) (hD : 0 < D) (h : a * D = e * b) (h1 : -D ≤ 2 * e) (h2 : 2 * e ≤ D) : -b ≤ 2 * a ∧ 2 * a ≤ b := by
  have k1 : 2 * e * b ≤ D * b := Int.mul_le_mul_of_nonneg_right h2 (by omega)
  have k2 : -D * b ≤ 2 * e * b := Int.mul_le_mul_of_nonneg_right h1 (by omega)
  have h' : 2 * a * D = 2 * e * b := by rw [Int.mul_assoc, h, Int.mul_assoc]
  constructor
  · have : -b * D ≤ 2 * a * D := by rw [h', Int.neg_mul, Int.mul_comm b D, ← Int.neg_mul]; exact k2
    exact Int.le_of_mul_le_mul_right this hD
  · have : 2 * a * D ≤ b * D := by rw [h', Int.mul_comm b D]; exact k1
    exact Int.le_of_mul_le_mul_right this hD
/-- all that FnRound reckons at one mode: the rounded number, it as a fraction, the rest, their sum -/
structure RoundAll (r : QI) (m : Int) (x : SI) (b q t z : QI) : Prop where
  ex : roundS r m = x
  ok : okS x = true
  lx : szS x ≤ 1048576
  eb : makeQ x (ofZ 1) = (b, true)
  eq : subQ r b = (q, true)
  et : addQ b q = (t, true)
  tr : cmpQ t r = 0
  okq : okQ q = true
  ez : sizeQ q = z
  zz : cmpQ q oneQ < 0 → negQ q = (z, true)
  z1 : cmpQ z unitQ < 0
  zh : 4 ≤ m → m ≤ 6 → cmpQ z halfQ ≤ 0
  wh : wholeB r = decide (cmpQ q oneQ = 0)
  sz : szQ r ≤ 1048576 ∧ szQ b ≤ 1048576 ∧ szQ q ≤ 1048576 ∧ szQ t ≤ 1048576 ∧ szQ z ≤ 1048576
theorem round_all {r : QI} {m : Int} (h : Bd r 3) : ∃ (x : SI) (b q t z : QI), RoundAll r m x b q t z := by
  have okx := roundS_ok r m
  have hab := round_abs h m
  obtain ⟨b1, b2, b3⟩ := int_bd okx (by omega) (by omega) hab
  obtain ⟨q1, q2, q3⟩ := sub_bd h b2 (by omega)
  obtain ⟨t1, t2, t3⟩ := add_bd b2 q2 (by omega)
  obtain ⟨z1, z2, z3⟩ := sizeQ_bd q2
  obtain ⟨e, e1, e2, e3, e4, e5⟩ := round_val h.ok m
  have pr := h.pos
  have pq := q2.pos
  have key : numQ (subQ r (makeQ (roundS r m) (ofZ 1)).1).1 * (denQ r : Int) = -e * (denQ (subQ r (makeQ (roundS r m) (ofZ 1)).1).1 : Int) := by
    generalize (subQ r (makeQ (roundS r m) (ofZ 1)).1).1 = q at *
    have n1 := rat_ne pr
    have n2 := rat_ne pq
    have e1' : ((valS (roundS r m) : Int) : Rat) * ((denQ r : Int) : Rat) = (numQ r : Rat) + (e : Rat) := by exact_mod_cast e1
    rw [b3] at q3
    unfold ratV at q3
    have : (numQ q : Rat) * ((denQ r : Int) : Rat) = -(e : Rat) * ((denQ q : Int) : Rat) := by grind
    exact_mod_cast this
  have hlt := part_lt pq key (by omega) (by omega)
  refine ⟨_, _, _, _, _, rfl, okx, by have := roundS_len r m; unfold szS szI; omega, pair_eq b1, pair_eq q1, pair_eq t1, cmp_same t2 h (by rw [t3, q3]; grind), q2.ok, rfl, fun hn => ?_, ?_, fun h4 h6 => ?_, ?_, ?_⟩
  · have hz := (neg_bd q2).1
    unfold sizeQ
    rw [if_pos hn]
    exact pair_eq hz
  · obtain ⟨u1, u2, u3, u4, u5⟩ := unitQ_is
    unfold cmpQ
    rw [if_pos ⟨z1.ok, u2⟩, u3, u4, z2, z3]
    have := (cmpI_facts (((numQ (subQ r (makeQ (roundS r m) (ofZ 1)).1).1).natAbs : Int) * ((1 : Nat) : Int)) (1 * (denQ (subQ r (makeQ (roundS r m) (ofZ 1)).1).1 : Int))).2.2
    omega
  · obtain ⟨u1, u2, u3, u4, u5⟩ := halfQ_is
    have hle := part_le pq pr key (by have := (e4 h4 h6); omega) (by have := (e4 h4 h6); omega)
    unfold cmpQ
    rw [if_pos ⟨z1.ok, u2⟩, u3, u4, z2, z3]
    have := (cmpI_facts (((numQ (subQ r (makeQ (roundS r m) (ofZ 1)).1).1).natAbs : Int) * ((2 : Nat) : Int)) (1 * (denQ (subQ r (makeQ (roundS r m) (ofZ 1)).1).1 : Int))).2.1
    omega
  · unfold wholeB
    rw [h.ok, Bool.true_and, decide_eq_decide, ← whole_iff h.ok, ← e5, signQ_of q2, (cmpI_facts _ _).1]
    generalize (subQ r (makeQ (roundS r m) (ofZ 1)).1).1 = q at *
    constructor
    · intro he
      rw [he] at key
      rcases Int.mul_eq_zero.1 (key.trans (by simp)) with h0 | h0
      · exact h0
      · omega
    · intro he
      rw [he, Int.zero_mul] at key
      rcases Int.mul_eq_zero.1 key.symm with h0 | h0 <;> omega
  · exact ⟨bd_sz h (by omega), bd_sz b2 (by omega), bd_sz q2 (by omega), bd_sz t2 (by omega), bd_sz z1 (by omega)⟩
end Go.Proofs.YthfkdofnoomhaaaGreatDoor

namespace Go.Proofs.YthfkdofnoomhaaaGreatDoor
open Go.RowKit

/-- the mode of the opposite direction -/
def turnedM (m : Int) : Int := if m = 2 then 3 else if m = 3 then 2 else m
theorem away_turn (neg : Bool) (Q R D : Nat) {m : Int} (h : modeB m = true) : awayB (!neg) Q R D (turnedM m) = awayB neg Q R D m := by
  rcases modeB_cases h with rfl | rfl | rfl | rfl | rfl | rfl | rfl <;> cases neg <;> rfl
theorem round_turn (neg : Bool) (A D : Nat) {m : Int} (h : modeB m = true) : roundN (!neg) A D (turnedM m) = roundN neg A D m := by unfold roundN; rw [away_turn _ _ _ _ h]
theorem cmpS_val {x y : SI} (hx : okS x = true) (hy : okS y = true) : cmpS x y = cmpI (valS x) (valS y) := by unfold cmpS; rw [if_pos ⟨hx, hy⟩]
theorem negQ_is {r : QI} (h : okQ r = true) : negQ r = ((negS r.1, r.2), true) := by unfold negQ; rw [if_pos h]
theorem roundN_zero (neg : Bool) (D : Nat) (m : Int) : roundN neg 0 D m = 0 := by unfold roundN; rw [Nat.zero_mod, Nat.zero_div, if_neg (fun h => h.1 rfl)]
/-- the negated fraction, rounded the other way -/
theorem round_neg {r : QI} {k : Nat} (h : Bd r k) {m : Int} (hm : modeB m = true) : valS (roundS (negQ r).1 (turnedM m)) = - valS (roundS r m) := by
  obtain ⟨n1, n2, n3⟩ := neg_bd h
  have hp := parts_of h.ok
  have hq := parts_of n2.ok
  have hs := okS_parts (okQ_parts h.ok).1
  have e := negQ_is h.ok
  have et : topN (negQ r).1 = topN r := by rw [e]; show (nval (negS r.1).2).toNat = (nval r.1.2).toNat; rw [negS_mag (okQ_parts h.ok).1]
  have ed : denQ (negQ r).1 = denQ r := by rw [e]; rfl
  rw [roundS_val hp, roundS_val hq, et, ed]
  by_cases h0 : topN r = 0
  · rw [h0, roundN_zero, roundN_zero]; simp
  · have esg : (negQ r).1.1.1 = !r.1.1 := by
      have h1 := okS_sign (okQ_parts n2.ok).1
      have h2 := okS_sign (okQ_parts h.ok).1
      have h3 : valS (negQ r).1.1 = - valS r.1 := by rw [e]; exact negS_val (okQ_parts h.ok).1
      have h4 : (valS r.1).natAbs = topN r := (abs_top h.ok).symm
      rw [h1, h2, h3]
      by_cases hn : valS r.1 < 0
      · rw [decide_eq_true hn, decide_eq_false (by omega)]; rfl
      · rw [decide_eq_false hn, decide_eq_true (by omega)]; rfl
    rw [esg, round_turn _ _ _ hm]
    cases r.1.1 <;> simp
theorem round_order {r : QI} (h : okQ r = true) (m : Int) : valS (roundS r 2) ≤ valS (roundS r m) ∧ valS (roundS r m) ≤ valS (roundS r 3) := by
  have hp := parts_of h
  rw [roundS_val hp, roundS_val hp, roundS_val hp]
  have c := roundN_cases r.1.1 (topN r) (denQ r) m
  have c2 := roundN_cases r.1.1 (topN r) (denQ r) 2
  have c3 := roundN_cases r.1.1 (topN r) (denQ r) 3
  rw [show awayB r.1.1 (topN r / denQ r) (topN r % denQ r) (denQ r) 2 = r.1.1 from rfl] at c2
  rw [show awayB r.1.1 (topN r / denQ r) (topN r % denQ r) (denQ r) 3 = !r.1.1 from rfl] at c3
  generalize r.1.1 = n at *
  generalize topN r / denQ r = Q at *
  generalize topN r % denQ r = R at *
  generalize roundN n (topN r) (denQ r) m = k at *
  generalize roundN n (topN r) (denQ r) 2 = k2 at *
  generalize roundN n (topN r) (denQ r) 3 = k3 at *
  generalize awayB n Q R (denQ r) m = a at *
  clear hp h
  cases n <;> cases a <;> simp at c c2 c3 ⊢ <;> omega
theorem limbs_head (k : Nat) : (limbs k).headD 0 % 2 = ((k % 2 : Nat) : Int) := by
  by_cases h : k = 0
  · subst h; rw [limbs, dif_pos rfl]; rfl
  · rw [limbs, dif_neg h]
    show ((k % 1000000000 : Nat) : Int) % 2 = _
    omega
theorem even_half {r : QI} (h : okQ r = true) (hh : halfB r = true) : evenB (roundS r 6).2 = true := by
  have hp := parts_of h
  have hd : denQ r = 2 := by
    unfold halfB at hh
    rw [h, Bool.true_and] at hh
    exact of_decide_eq_true hh
  have hl := round_len hp 6
  have e2 : (roundS r 6).2 = limbs (roundN r.1.1 (topN r) (denQ r) 6) := by
    show (mkS r.1.1 _).2 = _
    show capL _ = _
    unfold capL
    rw [if_neg (by omega)]
  have hg : Nat.gcd (topN r) (denQ r) = 1 := (okQ_parts h).2.2.2.2.2
  have c := roundN_cases r.1.1 (topN r) (denQ r) 6
  have ea : awayB r.1.1 (topN r / denQ r) (topN r % denQ r) (denQ r) 6 = (decide (denQ r < 2 * (topN r % denQ r)) || (decide (2 * (topN r % denQ r) = denQ r) && decide ((topN r / denQ r) % 2 = 1))) := rfl
  rw [ea, Bool.or_eq_true, Bool.or_eq_false_iff, Bool.and_eq_true, Bool.and_eq_false_iff, decide_eq_true_eq, decide_eq_true_eq, decide_eq_true_eq, decide_eq_false_iff_not, decide_eq_false_iff_not, decide_eq_false_iff_not] at c
  have hodd : topN r % 2 = 1 := by
    rcases Nat.mod_two_eq_zero_or_one (topN r) with h0 | h0
    · have h1 : 2 ∣ Nat.gcd (topN r) (denQ r) := Nat.dvd_gcd (Nat.dvd_of_mod_eq_zero h0) (by rw [hd]; exact Nat.dvd_refl 2)
      rw [hg] at h1
      have := Nat.le_of_dvd (by omega) h1
      omega
    · exact h0
  rw [e2]
  unfold evenB
  rw [limbs_okL _ (by omega), Bool.true_and, decide_eq_true_eq, limbs_head]
  rw [hd] at c ⊢
  have : roundN r.1.1 (topN r) 2 6 % 2 = 0 := by omega
  omega
/-- all that FnModes reckons at one mode -/
structure ModeAll (r : QI) (m : Int) (lo hi x y : SI) : Prop where
  lx : szS x ≤ 1048576
  ly : szS y ≤ 1048576
  ex : roundS r m = x
  ey : roundS (negQ r).1 (turnedM m) = y
  lo : cmpS lo x ≤ 0
  hi : cmpS x hi ≤ 0
  ng : cmpS x (negS y) = 0
theorem roundS_sz (r : QI) (m : Int) : szS (roundS r m) ≤ 1048576 := by have := roundS_len r m; unfold szS szI; omega
theorem mode_all {r : QI} {k : Nat} (h : Bd r k) {m : Int} (hm : modeB m = true) : ∃ x y, ModeAll r m (roundS r 2) (roundS r 3) x y := by
  have ho := round_order h.ok m
  have hn := round_neg h hm
  refine ⟨_, _, roundS_sz _ _, roundS_sz _ _, rfl, rfl, ?_, ?_, ?_⟩
  · rw [cmpS_val (roundS_ok _ _) (roundS_ok _ _), (cmpI_facts _ _).2.1]; exact ho.1
  · rw [cmpS_val (roundS_ok _ _) (roundS_ok _ _), (cmpI_facts _ _).2.1]; exact ho.2
  · rw [cmpS_val (roundS_ok _ _) (negS_ok _), negS_val (roundS_ok _ _), hn, Int.neg_neg, (cmpI_facts _ _).1]

/-! ### RoundTo -/
theorem quot_is {x : SI} {n : Int} {k : Nat} (ok : okS x = true) (hk : k ≤ 18) (h0 : 1 ≤ k) (hx : ((valS x).natAbs : Int) < bp k) (h1 : 1 ≤ n) (h2 : n ≤ 1000000) :
    (makeQ x (ofZ n)).2 = true ∧ Bd (makeQ x (ofZ n)).1 k ∧ numQ (makeQ x (ofZ n)).1 * n = valS x * denQ (makeQ x (ofZ n)).1 := by
  have hp := okS_parts ok
  have ha := valS_abs x hp.1
  have hnn := nval_ok hp.1
  have b1 : bp 1 = 1000000000 := rfl
  have b1k : bp 1 ≤ bp k := bp_mono h0
  have hl : (limbs n.natAbs).length ≤ 50 := limbs_length_le _ 50 (by have : bp 1 ≤ bp 50 := bp_mono (by omega); omega)
  have en : ofZ n = (false, limbs n.toNat) := by
    unfold ofZ
    rw [if_pos hl, decide_eq_false (by omega), show n.natAbs = n.toNat by omega]
  have e : makeQ x (ofZ n) = lowQ x.1 (nval x.2).toNat n.toNat := by
    unfold makeQ
    rw [if_pos ⟨ok, ofZ_ok n⟩, en, limbs_val, Int.toNat_natCast]
    cases x.1 <;> rfl
  have hN : ((nval x.2).toNat : Int) < bp k := by omega
  have hD : ((n.toNat : Nat) : Int) < bp k := by omega
  have h18 := bp_mono hk
  obtain ⟨l1, l2, l3, l4⟩ := low_is x.1 (nval x.2).toNat n.toNat (by omega) (by omega) (by omega)
  rw [e]
  refine ⟨l1, ⟨lowQ_ok _ _ _ l1, by omega, by omega⟩, ?_⟩
  have hv : (if x.1 = true then -((nval x.2).toNat : Int) else ((nval x.2).toNat : Int)) = valS x := by
    unfold valS
    rw [Int.toNat_of_nonneg hnn]
  rw [hv, Int.toNat_of_nonneg (by omega)] at l2
  exact l2
/-- all that FnStep reckons -/
structure StepAll (x : SI) (n m : Int) (y d : SI) : Prop where
  ey : stepS x n m = y
  by_ : stepB x n m = true
  ez : stepS y n m = y
  bz : stepB y n m = true
  dv : (divN y.2 (limbs n.toNat)).2 = []
  yy : cmpS y y = 0
  ed : absS (subS x y) = d
  lt : cmpS d (ofZ n) < 0
  sz : szS x ≤ 1048576 ∧ szS y ≤ 1048576 ∧ szS (subS x y) ≤ 1048576 ∧ szS d ≤ 1048576 ∧ szS (ofZ n) ≤ 1048576
theorem szS_50 {x : SI} (h : okS x = true) : szS x ≤ 1048576 := by have := (natOk_parts (okS_parts h).1).2.1; unfold szS szI; omega
theorem mulS_ok (x y : SI) : okS (mulS x y) = true := by unfold mulS; split; exact ofZ_ok _; exact zeroS_ok
theorem subSM_ok (x y : SI) : okS (subS x y) = true := by unfold subS; split; exact ofZ_ok _; exact zeroS_ok
theorem absS_ok (x : SI) : okS (absS x) = true := by unfold absS; split; exact ofZ_ok _; exact zeroS_ok
theorem small_ofZ {z : Int} {k : Nat} (h : (z.natAbs : Int) < bp k) (hk : k ≤ 50) : valS (ofZ z) = z := ofZ_val (limbs_length_le _ 50 (by have := bp_mono hk; omega))
theorem step_all {x : SI} {n m : Int} (ok : okS x = true) (hx : x.2.length ≤ 3) (h1 : 1 ≤ n) (h2 : n ≤ 500) (hm : modeB m = true) : ∃ y d, StepAll x n m y d := by
  have hp := okS_parts ok
  have ha := valS_abs x hp.1
  have hab : ((valS x).natAbs : Int) < bp 3 := by
    have h3 := nval_lt x.2 (natOk_parts hp.1).1
    have h4 := nval_ok hp.1
    have h5 : bp x.2.length ≤ bp 3 := bp_mono hx
    omega
  obtain ⟨q1, q2, q3⟩ := quot_is ok (k := 3) (by omega) (by omega) hab h1 (by omega)
  have hr := round_abs q2 m
  obtain ⟨e, e1, e2, e3, e4, e5⟩ := round_val q2.ok m
  have hsb : stepB x n m = true := by unfold stepB; rw [ok, decide_eq_true (show x.2.length ≤ 18 by omega), decide_eq_true (show 1 ≤ n ∧ n ≤ 1000000 by omega), hm]; rfl
  have ey : stepS x n m = mulS (roundS (makeQ x (ofZ n)).1 m) (ofZ n) := by unfold stepS; rw [if_pos hsb]
  have b1 : bp 1 = 1000000000 := rfl
  have vn : valS (ofZ n) = n := small_ofZ (k := 1) (by omega) (by omega)
  obtain ⟨X, hX⟩ : ∃ X, roundS (makeQ x (ofZ n)).1 m = X := ⟨_, rfl⟩
  have okX : okS X = true := by rw [← hX]; exact roundS_ok _ _
  rw [hX] at hr e1 ey
  have hXn : ((valS X * n).natAbs : Int) < bp 5 := by
    have := mul_lt (a := (valS X).natAbs) (b := n.natAbs) (i := 4) (j := 1) hr (by omega)
    rw [Int.natAbs_mul]
    exact this
  have vy : valS (mulS X (ofZ n)) = valS X * n := by
    unfold mulS
    rw [if_pos ⟨okX, ofZ_ok n⟩, vn]
    exact small_ofZ hXn (by omega)
  obtain ⟨y, hy⟩ : ∃ y, mulS X (ofZ n) = y := ⟨_, rfl⟩
  have oky : okS y = true := by rw [← hy]; exact mulS_ok _ _
  rw [hy] at ey vy
  have hpy := okS_parts oky
  have hay := valS_abs y hpy.1
  have hyl : y.2.length ≤ 5 := by
    rw [natOk_limbs hpy.1]
    refine limbs_length_le _ 5 ?_
    rw [← hay, vy]
    exact hXn
  have hsz : stepB y n m = true := by unfold stepB; rw [oky, decide_eq_true (show y.2.length ≤ 18 by omega), decide_eq_true (show 1 ≤ n ∧ n ≤ 1000000 by omega), hm]; rfl
  -- the quotient of y is an integer
  obtain ⟨p1, p2, p3⟩ := quot_is oky (k := 5) (by omega) (by omega) (by rw [vy]; exact hXn) h1 (by omega)
  have hint : roundS (makeQ y (ofZ n)).1 m = X := by
    obtain ⟨f, f1, f2, f3, f4, f5⟩ := round_val p2.ok m
    have pd := p2.pos
    have hnum : numQ (makeQ y (ofZ n)).1 = valS X * denQ (makeQ y (ofZ n)).1 := by
      have : numQ (makeQ y (ofZ n)).1 * n = valS X * denQ (makeQ y (ofZ n)).1 * n := by rw [p3, vy]; ac_rfl
      exact Int.eq_of_mul_eq_mul_right (by omega) this
    have hmod : topN (makeQ y (ofZ n)).1 % denQ (makeQ y (ofZ n)).1 = 0 := by
      rw [abs_top p2.ok, hnum, Int.natAbs_mul, Int.natAbs_natCast, Nat.mul_mod_left]
    have hf0 := f5.2 hmod
    have hd1 := (whole_iff p2.ok).1 hmod
    rw [hf0, hnum, hd1] at f1
    have hv : valS (roundS (makeQ y (ofZ n)).1 m) = valS X := by omega
    rw [← okS_ofZ (roundS_ok _ m), hv, okS_ofZ okX]
  have ez : stepS y n m = y := by unfold stepS; rw [if_pos hsz, hint, hy]
  -- how far it is off
  have pq := q2.pos
  have hoff : -n < valS y - valS x ∧ valS y - valS x < n := by
    refine part_lt (D := (denQ (makeQ x (ofZ n)).1 : Int)) (e := e) (by omega) ?_ e2 e3
    rw [Int.sub_mul, ← q3, vy]
    have : valS X * n * (denQ (makeQ x (ofZ n)).1 : Int) = (numQ (makeQ x (ofZ n)).1 + e) * n := by rw [← e1]; ac_rfl
    rw [this, Int.add_mul]
    omega
  have hsub : ((valS x - valS y).natAbs : Int) < bp 1 := by omega
  have vs : valS (subS x y) = valS x - valS y := by
    unfold subS
    rw [if_pos ⟨ok, oky⟩]
    exact small_ofZ hsub (by omega)
  have vd : valS (absS (subS x y)) = ((valS x - valS y).natAbs : Int) := by
    unfold absS
    rw [if_pos (subSM_ok x y), vs]
    exact small_ofZ (k := 1) (by omega) (by omega)
  have okn : natOkB (limbs n.toNat) = true := limbs_okL _ (limbs_length_le _ 50 (by have : bp 1 ≤ bp 50 := bp_mono (by omega); omega))
  have hnl : 0 < (limbs n.toNat).length := by
    rcases Nat.eq_zero_or_pos (limbs n.toNat).length with h0 | h0
    · have := (limbs_zero_iff _).1 h0; omega
    · exact h0
  refine ⟨y, _, ey, hsb, ez, hsz, ?_, ?_, rfl, ?_, szS_50 ok, szS_50 oky, szS_50 (subSM_ok _ _), szS_50 (absS_ok _), szS_50 (ofZ_ok _)⟩
  · unfold divN
    rw [if_pos ⟨hpy.1, okn, hnl⟩, limbs_val, Int.toNat_of_nonneg (by omega)]
    have hnv := nval_ok hpy.1
    have hz : nval y.2 % n = 0 := by
      have h3 : nval y.2 = ((valS X).natAbs : Int) * n := by
        have h4 : (valS y).natAbs = (valS X).natAbs * n.natAbs := by rw [vy, Int.natAbs_mul]
        have h5 : (n.natAbs : Int) = n := by omega
        have h6 : nval y.2 = ((valS y).natAbs : Int) := by omega
        rw [h6, h4, Int.natCast_mul, h5]
      rw [h3, Int.mul_emod_left]
    rw [hz, show (0 : Int).toNat = 0 from rfl]
    show limbs 0 = []
    rw [limbs, dif_pos rfl]
  · rw [cmpS_val oky oky, (cmpI_facts _ _).1]
  · rw [cmpS_val (absS_ok _) (ofZ_ok _), vd, vn]
    have := (cmpI_facts ((valS x - valS y).natAbs : Int) n).2.2
    omega
end Go.Proofs.YthfkdofnoomhaaaGreatDoor

namespace Go.Proofs.YthfkdofnoomhaaaGreatDoor
open Go.RowKit

theorem modeB_in (m : Int) : inB m 0 6 = modeB m := rfl
set_option maxHeartbeats 400000 in
set_option maxRecDepth 100000 in
theorem l06Mode_any (m : Int) (w : World) : Calls Tryz.prog 62 #[.int .i64 m] w (Postb (modeB m) w) := by
  go_enter Tryz.func62, Tryz.ntmps62
  go_wp2_with fail
  refine (specIn_any m 0 6 (modeB m) _ (modeB_in m)).mono ?_
  rintro e w1 ⟨rfl, rfl⟩
  go_wp2
  go_ret
  exact ⟨rfl, Below.refl _ _⟩
/-- what a call answers that gives a string -/
def PostN (s : ByteArray) (w : World) (e : Ending) (w' : World) : Prop := e = .returned (.string s) ∧ Below w.heap.size w w'
theorem bytes_neM {a b : ByteArray} (h : ¬ a = b) : (a.toList == b.toList) = false := by
  rw [beq_eq_false_iff_ne]
  rw [ByteArray.toList_eq, ByteArray.toList_eq]
  exact fun e => h (WideShapes.bytes_inj e)
theorem bytes_eqM {a b : ByteArray} (h : a = b) : (a.toList == b.toList) = true := by subst h; exact beq_self_eq_true _
/-- impl's table of the modes -/
def modeCells : Array Value := #[.string ⟨#[100, 111, 119, 110]⟩, .func (.func 181) #[] #[], .string ⟨#[117, 112]⟩, .func (.func 182) #[] #[], .string ⟨#[102, 108, 111, 111, 114]⟩, .func (.func 183) #[] #[], .string ⟨#[99, 101, 105, 108]⟩, .func (.func 184) #[] #[], .string ⟨#[104, 97, 108, 102, 100, 111, 119, 110]⟩, .func (.func 185) #[] #[], .string ⟨#[104, 97, 108, 102, 117, 112]⟩, .func (.func 187) #[] #[], .string ⟨#[104, 97, 108, 102, 101, 118, 101, 110]⟩, .func (.func 188) #[] #[]]
set_option maxHeartbeats 1000000 in
set_option maxRecDepth 100000 in
theorem roundings_any (w : World) : Calls Tryz.prog 140 #[] w fun e w' => ∃ b : Nat, e = .returned (.slice (some ⟨b, 0, none⟩) 7 7) ∧ At [b] (BoxAt b modeCells 95) w' ∧ w.heap.size ≤ b ∧ Below w.heap.size w w' := by
  go_enter Tryz.func140, Tryz.ntmps140
  go_wp2
  go_ret
  exact ⟨_, rfl, box_new _ _ _, Nat.le_refl _, below_al (Below.refl _ _) _⟩
theorem below_set2M {W0 W : World} {g : Nat} {a b : Value} (h : Below W0.heap.size W0 W) (hg : W0.heap.size ≤ g) : Below W0.heap.size W0 ((W.setCell ⟨g, 0, none⟩ a).setCell ⟨g, 1, none⟩ b) := (h.setCell (p := ⟨g, 0, none⟩) hg _).setCell (p := ⟨g, 1, none⟩) hg _
/-- the function that impl's table holds for a mode -/
def fnOf (m : Int) : FuncId := if m = 0 then 181 else if m = 1 then 182 else if m = 2 then 183 else if m = 3 then 184 else if m = 4 then 185 else if m = 5 then 187 else 188
def PostRM (s : ByteArray) (f : Value) (b : Bool) (w : World) (e : Ending) (w' : World) : Prop := e = .returned (.tuple #[.agg #[.string s, f], .bool b]) ∧ Below w.heap.size w w'
set_option maxHeartbeats 4000000 in
set_option maxRecDepth 100000 in
theorem roundingOf_mode (m : Int) (hm : modeB m = true) (w : World) : Calls Tryz.prog 71 #[.int .i64 m] w (PostRM (nameB m) (.func (.func (fnOf m)) #[] #[]) true w) := by
  have bb0 : Below w.heap.size w (w.alloc (.cells #[.string ⟨#[]⟩, .nilFunc] 95)) := below_al (Below.refl _ _) _
  have ko := box_new w #[.string ⟨#[]⟩, .nilFunc] 95
  rcases modeB_cases hm with rfl | rfl | rfl | rfl | rfl | rfl | rfl
  · clear hm
    go_enter Tryz.func71, Tryz.ntmps71
    go_wp2_with fail
    refine (roundings_any _).mono ?_
    rintro e w1 ⟨b, rfl, kb, hb, b1⟩
    have bb1 := Below.next bb0 b1
    replace ko := ko.below b1
    have cb0 : w1.cell? ⟨b, 0, none⟩ = some (.string ⟨#[100, 111, 119, 110]⟩) := kb.here.cell 0 _ rfl
    have cb1 : w1.cell? ⟨b, 1, none⟩ = some (.func (.func 181) #[] #[]) := kb.here.cell 1 _ rfl
    have cz0 := ko.here.cell 0 _ rfl
    have cz1 := ko.here.cell 1 _ rfl
    have fz0 := Lib.frozen_of_heap ko.here 0
    have fz1 := Lib.frozen_of_heap ko.here 1
    go_wp2
    refine bodyPost_ret (v := .tuple #[.agg #[.string ⟨#[100, 111, 119, 110]⟩, .func (.func 181) #[] #[]], .bool true]) (by simp [results, Tryz.results71, go_sem, cz0, cz1]) rfl ?_
    exact ⟨rfl, below_set2M bb1 (Nat.le_refl _)⟩
  · clear hm
    go_enter Tryz.func71, Tryz.ntmps71
    go_wp2_with fail
    refine (roundings_any _).mono ?_
    rintro e w1 ⟨b, rfl, kb, hb, b1⟩
    have bb1 := Below.next bb0 b1
    replace ko := ko.below b1
    have cb0 : w1.cell? ⟨b, 2, none⟩ = some (.string ⟨#[117, 112]⟩) := kb.here.cell 2 _ rfl
    have cb1 : w1.cell? ⟨b, 3, none⟩ = some (.func (.func 182) #[] #[]) := kb.here.cell 3 _ rfl
    have cz0 := ko.here.cell 0 _ rfl
    have cz1 := ko.here.cell 1 _ rfl
    have fz0 := Lib.frozen_of_heap ko.here 0
    have fz1 := Lib.frozen_of_heap ko.here 1
    go_wp2
    refine bodyPost_ret (v := .tuple #[.agg #[.string ⟨#[117, 112]⟩, .func (.func 182) #[] #[]], .bool true]) (by simp [results, Tryz.results71, go_sem, cz0, cz1]) rfl ?_
    exact ⟨rfl, below_set2M bb1 (Nat.le_refl _)⟩
  · clear hm
    go_enter Tryz.func71, Tryz.ntmps71
    go_wp2_with fail
    refine (roundings_any _).mono ?_
    rintro e w1 ⟨b, rfl, kb, hb, b1⟩
    have bb1 := Below.next bb0 b1
    replace ko := ko.below b1
    have cb0 : w1.cell? ⟨b, 4, none⟩ = some (.string ⟨#[102, 108, 111, 111, 114]⟩) := kb.here.cell 4 _ rfl
    have cb1 : w1.cell? ⟨b, 5, none⟩ = some (.func (.func 183) #[] #[]) := kb.here.cell 5 _ rfl
    have cz0 := ko.here.cell 0 _ rfl
    have cz1 := ko.here.cell 1 _ rfl
    have fz0 := Lib.frozen_of_heap ko.here 0
    have fz1 := Lib.frozen_of_heap ko.here 1
    go_wp2
    refine bodyPost_ret (v := .tuple #[.agg #[.string ⟨#[102, 108, 111, 111, 114]⟩, .func (.func 183) #[] #[]], .bool true]) (by simp [results, Tryz.results71, go_sem, cz0, cz1]) rfl ?_
    exact ⟨rfl, below_set2M bb1 (Nat.le_refl _)⟩
  · clear hm
    go_enter Tryz.func71, Tryz.ntmps71
    go_wp2_with fail
    refine (roundings_any _).mono ?_
    rintro e w1 ⟨b, rfl, kb, hb, b1⟩
    have bb1 := Below.next bb0 b1
    replace ko := ko.below b1
    have cb0 : w1.cell? ⟨b, 6, none⟩ = some (.string ⟨#[99, 101, 105, 108]⟩) := kb.here.cell 6 _ rfl
    have cb1 : w1.cell? ⟨b, 7, none⟩ = some (.func (.func 184) #[] #[]) := kb.here.cell 7 _ rfl
    have cz0 := ko.here.cell 0 _ rfl
    have cz1 := ko.here.cell 1 _ rfl
    have fz0 := Lib.frozen_of_heap ko.here 0
    have fz1 := Lib.frozen_of_heap ko.here 1
    go_wp2
    refine bodyPost_ret (v := .tuple #[.agg #[.string ⟨#[99, 101, 105, 108]⟩, .func (.func 184) #[] #[]], .bool true]) (by simp [results, Tryz.results71, go_sem, cz0, cz1]) rfl ?_
    exact ⟨rfl, below_set2M bb1 (Nat.le_refl _)⟩
  · clear hm
    go_enter Tryz.func71, Tryz.ntmps71
    go_wp2_with fail
    refine (roundings_any _).mono ?_
    rintro e w1 ⟨b, rfl, kb, hb, b1⟩
    have bb1 := Below.next bb0 b1
    replace ko := ko.below b1
    have cb0 : w1.cell? ⟨b, 8, none⟩ = some (.string ⟨#[104, 97, 108, 102, 100, 111, 119, 110]⟩) := kb.here.cell 8 _ rfl
    have cb1 : w1.cell? ⟨b, 9, none⟩ = some (.func (.func 185) #[] #[]) := kb.here.cell 9 _ rfl
    have cz0 := ko.here.cell 0 _ rfl
    have cz1 := ko.here.cell 1 _ rfl
    have fz0 := Lib.frozen_of_heap ko.here 0
    have fz1 := Lib.frozen_of_heap ko.here 1
    go_wp2
    refine bodyPost_ret (v := .tuple #[.agg #[.string ⟨#[104, 97, 108, 102, 100, 111, 119, 110]⟩, .func (.func 185) #[] #[]], .bool true]) (by simp [results, Tryz.results71, go_sem, cz0, cz1]) rfl ?_
    exact ⟨rfl, below_set2M bb1 (Nat.le_refl _)⟩
  · clear hm
    go_enter Tryz.func71, Tryz.ntmps71
    go_wp2_with fail
    refine (roundings_any _).mono ?_
    rintro e w1 ⟨b, rfl, kb, hb, b1⟩
    have bb1 := Below.next bb0 b1
    replace ko := ko.below b1
    have cb0 : w1.cell? ⟨b, 10, none⟩ = some (.string ⟨#[104, 97, 108, 102, 117, 112]⟩) := kb.here.cell 10 _ rfl
    have cb1 : w1.cell? ⟨b, 11, none⟩ = some (.func (.func 187) #[] #[]) := kb.here.cell 11 _ rfl
    have cz0 := ko.here.cell 0 _ rfl
    have cz1 := ko.here.cell 1 _ rfl
    have fz0 := Lib.frozen_of_heap ko.here 0
    have fz1 := Lib.frozen_of_heap ko.here 1
    go_wp2
    refine bodyPost_ret (v := .tuple #[.agg #[.string ⟨#[104, 97, 108, 102, 117, 112]⟩, .func (.func 187) #[] #[]], .bool true]) (by simp [results, Tryz.results71, go_sem, cz0, cz1]) rfl ?_
    exact ⟨rfl, below_set2M bb1 (Nat.le_refl _)⟩
  · clear hm
    go_enter Tryz.func71, Tryz.ntmps71
    go_wp2_with fail
    refine (roundings_any _).mono ?_
    rintro e w1 ⟨b, rfl, kb, hb, b1⟩
    have bb1 := Below.next bb0 b1
    replace ko := ko.below b1
    have cb0 : w1.cell? ⟨b, 12, none⟩ = some (.string ⟨#[104, 97, 108, 102, 101, 118, 101, 110]⟩) := kb.here.cell 12 _ rfl
    have cb1 : w1.cell? ⟨b, 13, none⟩ = some (.func (.func 188) #[] #[]) := kb.here.cell 13 _ rfl
    have cz0 := ko.here.cell 0 _ rfl
    have cz1 := ko.here.cell 1 _ rfl
    have fz0 := Lib.frozen_of_heap ko.here 0
    have fz1 := Lib.frozen_of_heap ko.here 1
    go_wp2
    refine bodyPost_ret (v := .tuple #[.agg #[.string ⟨#[104, 97, 108, 102, 101, 118, 101, 110]⟩, .func (.func 188) #[] #[]], .bool true]) (by simp [results, Tryz.results71, go_sem, cz0, cz1]) rfl ?_
    exact ⟨rfl, below_set2M bb1 (Nat.le_refl _)⟩
set_option maxHeartbeats 4000000 in
set_option maxRecDepth 100000 in
theorem roundingOf_none (m : Int) (hm : ¬ modeB m = true) (w : World) : Calls Tryz.prog 71 #[.int .i64 m] w (PostRM ⟨#[]⟩ .nilFunc false w) := by
  have bb0 : Below w.heap.size w (w.alloc (.cells #[.string ⟨#[]⟩, .nilFunc] 95)) := below_al (Below.refl _ _) _
  have ko := box_new w #[.string ⟨#[]⟩, .nilFunc] 95
  have h6 := (modeB_false hm).2
  clear hm
  by_cases h0 : m < 0
  · clear h6
    go_enter Tryz.func71, Tryz.ntmps71
    go_wp2_with fail
    refine (roundings_any _).mono ?_
    rintro e w1 ⟨b, rfl, kb, hb, b1⟩
    have bb1 := Below.next bb0 b1
    replace ko := ko.below b1
    have cz0 := ko.here.cell 0 _ rfl
    have cz1 := ko.here.cell 1 _ rfl
    have fz0 := Lib.frozen_of_heap ko.here 0
    have fz1 := Lib.frozen_of_heap ko.here 1
    go_wp2
    refine bodyPost_ret (v := .tuple #[.agg #[.string ⟨#[]⟩, .nilFunc], .bool false]) (by simp [results, Tryz.results71, go_sem, cz0, cz1]) rfl ?_
    exact ⟨rfl, below_set2M bb1 (Nat.le_refl _)⟩
  · have h7 : ((7 : Nat) : Int) ≤ m := by omega
    clear h6
    go_enter Tryz.func71, Tryz.ntmps71
    go_wp2_with fail
    refine (roundings_any _).mono ?_
    rintro e w1 ⟨b, rfl, kb, hb, b1⟩
    have bb1 := Below.next bb0 b1
    replace ko := ko.below b1
    have cz0 := ko.here.cell 0 _ rfl
    have cz1 := ko.here.cell 1 _ rfl
    have fz0 := Lib.frozen_of_heap ko.here 0
    have fz1 := Lib.frozen_of_heap ko.here 1
    go_wp2
    refine bodyPost_ret (v := .tuple #[.agg #[.string ⟨#[]⟩, .nilFunc], .bool false]) (by simp [results, Tryz.results71, go_sem, cz0, cz1]) rfl ?_
    exact ⟨rfl, below_set2M bb1 (Nat.le_refl _)⟩
end Go.Proofs.YthfkdofnoomhaaaGreatDoor

namespace Go.Proofs.YthfkdofnoomhaaaGreatDoor
open Go.RowKit

theorem OwnI.belowI {v : Value} {xs : List Int} {w w' : World} (h : OwnI v xs w) (hb : Below w.heap.size w w') : OwnI v xs w' := own_below h hb
theorem ownI_eq {v : Value} {xs ys : List Int} {w : World} (h : OwnI v xs w) (e : xs = ys) : OwnI v ys w := e ▸ h
theorem ownI_lim {A : Option Addr} {c : Nat} {xs ys : List Int} {w : World} (h : OwnI (.slice A xs.length c) xs w) (e : xs = ys) : OwnI (.slice A ys.length c) ys w := e ▸ h
theorem roundVS_eq {x y : SI} {w w' : World} {e : Ending} (hxy : x = y) (h : NewV (fun u => OwnS u x) w e w') : NewV (fun u => OwnS u y) w e w' := hxy ▸ h
theorem chg_set2 {r : Nat} {c0 c1 : Value} {W : World} : Chg [r] W ((W.setCell ⟨r, 0, none⟩ c0).setCell ⟨r, 1, none⟩ c1) := ((Chg.refl _ _).setCell (by simp) _).setCell (by simp) _
/-- a result that lies in its cells at block r: a new signed number, with a bool and without -/
theorem newSb_at {r B : Nat} {S : List Nat} {c0 c1 : Value} {x : SI} {b : Bool} {w W : World} (o : At S (OwnS (.agg #[c0, c1]) x) W) (l : Within S B W.heap.size) (hrB : r < B) (hr : w.heap.size ≤ r) (hW : Below w.heap.size w W) :
    PostSb x b w (.returned (.tuple #[.agg #[c0, c1], .bool b])) ((W.setCell ⟨r, 0, none⟩ c0).setCell ⟨r, 1, none⟩ c1) := by
  have hc : Chg [r] W ((W.setCell ⟨r, 0, none⟩ c0).setCell ⟨r, 1, none⟩ c1) := chg_set2
  have hz := hc.size
  exact ⟨_, S, rfl, o.chg hc (fun i hi hm => by have := l i hi; simp at hm; omega), fun i hi => by have := l i hi; omega, below_set2 hW hr⟩
theorem newS_at {r B : Nat} {S : List Nat} {c0 c1 : Value} {x : SI} {w W : World} (o : At S (OwnS (.agg #[c0, c1]) x) W) (l : Within S B W.heap.size) (hrB : r < B) (hr : w.heap.size ≤ r) (hW : Below w.heap.size w W) :
    NewV (fun v => OwnS v x) w (.returned (.agg #[c0, c1])) ((W.setCell ⟨r, 0, none⟩ c0).setCell ⟨r, 1, none⟩ c1) := by
  have hc : Chg [r] W ((W.setCell ⟨r, 0, none⟩ c0).setCell ⟨r, 1, none⟩ c1) := chg_set2
  have hz := hc.size
  exact ⟨_, S, rfl, o.chg hc (fun i hi hm => by have := l i hi; simp at hm; omega), fun i hi => by have := l i hi; omega, below_set2 hW hr⟩
theorem ownS_zero (w : World) : OwnS (.agg #[.bool false, .slice none 0 0]) zeroS w := ⟨_, rfl, World.ownsRow_nil _ _ _ _⟩
theorem newSb_zero {w W : World} (b : Bool) (hW : Below w.heap.size w W) : PostSb zeroS b w (.returned (.tuple #[.agg #[.bool false, .slice none 0 0], .bool b])) W :=
  ⟨_, [], rfl, ⟨ownS_zero _, fun _ hg => absurd hg List.not_mem_nil, fun w' _ => ownS_zero w'⟩, fun _ hg => absurd hg List.not_mem_nil, hW⟩
/-- quotient and rest -/
theorem quot_rest {r : QI} : (nval r.1.2 / nval r.2).toNat = (topN r / denQ r : Nat) ∨ ¬ okQ r = true := by
  by_cases h : okQ r = true
  · have p := parts_of h
    refine .inl ?_
    rw [p.n, p.d, limbs_val, limbs_val]
    exact div_toNat _ _
  · exact .inr h
theorem quot_of {r : QI} (h : okQ r = true) : (nval r.1.2 / nval r.2).toNat = topN r / denQ r := by
  have p := parts_of h
  rw [p.n, p.d, limbs_val, limbs_val]
  exact div_toNat _ _
theorem rest_of {r : QI} (h : okQ r = true) : (nval r.1.2 % nval r.2).toNat = topN r % denQ r := by
  have p := parts_of h
  rw [p.n, p.d, limbs_val, limbs_val, ← Int.natCast_emod]
  exact Int.toNat_natCast _
/-- sizes of quotient and rest -/
theorem quot_len {r : QI} (h : okQ r = true) : (limbs (topN r / denQ r)).length ≤ 18 := limbs_length_le _ 18 (by
  have p := (parts_of h).nlt
  have := Nat.div_le_self (topN r) (denQ r)
  omega)
theorem rest_len {r : QI} (h : okQ r = true) : (limbs (topN r % denQ r)).length ≤ 18 := limbs_length_le _ 18 (by
  have p := (parts_of h).dlt
  have := Nat.mod_lt (topN r) (denQ_pos h)
  omega)
theorem even_limbs {k : Nat} (h : (limbs k).length ≤ 50) : evenB (limbs k) = decide (k % 2 = 0) := by
  unfold evenB
  rw [limbs_okL _ h, Bool.true_and]
  have e : (limbs k).headD 0 % 2 = ((k % 2 : Nat) : Int) := by
    by_cases h : k = 0
    · subst h; rw [limbs, dif_pos rfl]; rfl
    · rw [limbs, dif_neg h]
      show ((k % 1000000000 : Nat) : Int) % 2 = _
      omega
  rw [e, decide_eq_decide]
  omega
theorem round_plain {r : QI} {m : Int} (h : topN r % denQ r = 0 ∨ awayB r.1.1 (topN r / denQ r) (topN r % denQ r) (denQ r) m = false) : mkS r.1.1 (limbs (topN r / denQ r)) = roundS r m := by
  unfold roundS roundN
  rw [if_neg (fun e => by rcases h with h | h; exact e.1 h; rw [h] at e; exact absurd e.2 (by decide)), Nat.add_zero]
theorem round_more {r : QI} {m : Int} (h : topN r % denQ r ≠ 0) (ha : awayB r.1.1 (topN r / denQ r) (topN r % denQ r) (denQ r) m = true) : mkS r.1.1 (limbs (topN r / denQ r + 1)) = roundS r m := by
  unfold roundS roundN
  rw [if_pos ⟨h, ha⟩]
theorem one_more (Q : Nat) : trimL (addL (limbs Q) [1] 0) = limbs (Q + 1) := by
  have h := addL_val (limbs Q) [1] 0 (limbs_digN Q) (by rw [← one_limbs]; exact limbs_digN 1) (by omega) (by omega)
  rw [trim_limbs _ h.2.1, h.1, limbs_val]
  have : nval [1] = 1 := rfl
  rw [this, show ((Q : Int) + 1 + 0).toNat = Q + 1 by omega]
theorem twice_len {R : Nat} (h : (limbs R).length ≤ 18) : (addL (limbs R) (limbs R) 0).length ≤ 40 ∧ DigN (addL (limbs R) (limbs R) 0) ∧ (addL (limbs R) (limbs R) 0).getLastD 1 ≠ 0 ∧ nval (addL (limbs R) (limbs R) 0) = (R : Int) + R + 0 := by
  have hs := addL_val (limbs R) (limbs R) 0 (limbs_digN R) (limbs_digN R) (by omega) (by omega)
  rw [limbs_val] at hs
  exact ⟨by omega, hs.2.1, addL_last _ _ _ (limbs_digN R) (limbs_digN R) (by omega) (by omega) (limbs_lastN R) (limbs_lastN R), hs.1⟩
theorem awayB_0 (neg : Bool) (Q R D : Nat) : awayB neg Q R D 0 = false := rfl
theorem awayB_1 (neg : Bool) (Q R D : Nat) : awayB neg Q R D 1 = true := rfl
theorem awayB_2 (neg : Bool) (Q R D : Nat) : awayB neg Q R D 2 = neg := rfl
theorem awayB_3 (neg : Bool) (Q R D : Nat) : awayB neg Q R D 3 = !neg := rfl
theorem awayB_4 (neg : Bool) (Q R D : Nat) : awayB neg Q R D 4 = decide (D < 2 * R) := rfl
theorem awayB_5 (neg : Bool) (Q R D : Nat) : awayB neg Q R D 5 = decide (D ≤ 2 * R) := rfl
theorem awayB_6 (neg : Bool) (Q R D : Nat) : awayB neg Q R D 6 = (decide (D < 2 * R) || (decide (2 * R = D) && decide (Q % 2 = 1))) := rfl
/-- the modes that look at the half, by how twice the rest compares with the denominator -/
theorem away_cmp (neg : Bool) (Q R D : Nat) {c : Int} (h : cmpI ((R : Int) + R + 0) D = c) : awayB neg Q R D 4 = decide (0 < c) ∧ awayB neg Q R D 5 = decide (0 ≤ c) ∧ awayB neg Q R D 6 = (decide (0 < c) || (decide (c = 0) && decide (Q % 2 = 1))) := by
  have t := twice_cmp R D
  rw [h] at t
  rw [awayB_4, awayB_5, awayB_6, decide_eq_decide.2 t.1, decide_eq_decide.2 t.2.1, decide_eq_decide.2 t.2.2]
  exact ⟨rfl, rfl, rfl⟩
theorem cmp_three (x y : Int) : cmpI x y = -1 ∨ cmpI x y = 0 ∨ cmpI x y = 1 := by unfold cmpI; split; exact .inl rfl; split; exact .inr (.inr rfl); exact .inr (.inl rfl)
theorem den_cmp {r : QI} {n : Int} (ok : okQ r = true) : decide ((denQ r : Int) = n) = (cmpI (nval r.2) n == 0) := by
  have e : nval r.2 = (denQ r : Int) := by
    have p := (parts_of ok).d
    unfold denQ
    rw [p, limbs_val, Int.toNat_natCast]
  rw [e, Bool.eq_iff_iff, decide_eq_true_eq, beq_iff_eq]
  unfold cmpI
  split
  · omega
  · split <;> omega
theorem wholeB_cmp {r : QI} (ok : okQ r = true) : wholeB r = (cmpI (nval r.2) (nval [1]) == 0) := by
  rw [← den_cmp ok]
  unfold wholeB
  rw [ok, Bool.true_and, decide_eq_decide]
  show _ ↔ (denQ r : Int) = 1
  omega
theorem halfB_cmp {r : QI} (ok : okQ r = true) : halfB r = (cmpI (nval r.2) (nval [2]) == 0) := by
  rw [← den_cmp ok]
  unfold halfB
  rw [ok, Bool.true_and, decide_eq_decide]
  show _ ↔ (denQ r : Int) = 2
  omega
theorem dig_1 : DigN [1] := by rw [← one_limbs]; exact limbs_digN 1
theorem two_limbs : limbs 2 = [2] := by rw [limbs, dif_neg (by decide), limbs, dif_pos (by decide)]; rfl
theorem dig_2 : DigN [2] := by rw [← two_limbs]; exact limbs_digN 2
theorem limbs_none_iff {n : Nat} : (limbs n).length = 0 ↔ n = 0 := limbs_zero_iff n
end Go.Proofs.YthfkdofnoomhaaaGreatDoor

namespace Go.Proofs.YthfkdofnoomhaaaGreatDoor
open Go.RowKit

theorem round_lt18 {r : QI} (h : okQ r = true) (m : Int) : (roundN r.1.1 (topN r) (denQ r) m : Int) < bp 18 := by
  have p := parts_of h
  have hn := p.nlt
  have hd := denQ_pos h
  have c := roundN_cases r.1.1 (topN r) (denQ r) m
  have b1 : bp 1 = 1000000000 := rfl
  have b18 : bp 1 ≤ bp 18 := bp_mono (by omega)
  by_cases h1 : denQ r = 1
  · rw [h1] at c ⊢
    rw [Nat.mod_one, Nat.div_one] at c
    omega
  · have h2 : topN r / denQ r ≤ topN r / 2 := Nat.div_le_div_left (by omega) (by omega)
    have h3 := roundN_le r.1.1 (topN r) (denQ r) m
    omega
/-- the rounded number as a fraction, and the rest -/
theorem rest_parts {r : QI} (h : okQ r = true) (m : Int) : (makeQ (roundS r m) (ofZ 1)).2 = true ∧ (subQ r (makeQ (roundS r m) (ofZ 1)).1).2 = true := by
  have p := parts_of h
  have okx := roundS_ok r m
  have h18 := round_lt18 h m
  have hv := roundS_val p m
  have hab : ((valS (roundS r m)).natAbs : Int) < bp 18 := by
    have : (valS (roundS r m)).natAbs = roundN r.1.1 (topN r) (denQ r) m := by rw [hv]; split <;> omega
    omega
  obtain ⟨b1, b2, b3⟩ := int_bd okx (m := 18) (by omega) (by omega) hab
  refine ⟨b1, ?_⟩
  obtain ⟨e, e1, e2, e3, _, _⟩ := round_val h m
  generalize roundS r m = X at *
  generalize (makeQ X (ofZ 1)).1 = Y at *
  have py := b2.pos
  have pr : (0 : Int) < denQ r := by have := denQ_pos h; omega
  have hY : numQ Y = valS X * denQ Y := by
    have n1 := rat_ne py
    unfold ratV at b3
    have : (numQ Y : Rat) = ((valS X : Int) : Rat) * ((denQ Y : Int) : Rat) := by grind
    exact_mod_cast this
  obtain ⟨n1, n2, n3⟩ := neg_bd b2
  have en := negQ_is b2.ok
  have hN : numQ (negQ Y).1 = - numQ Y := by rw [en]; exact negS_val (okQ_parts b2.ok).1
  have hD : denQ (negQ Y).1 = denQ Y := by rw [en]; rfl
  have h1 : denQ Y = 1 := by
    have hg : Nat.gcd (topN Y) (denQ Y) = 1 := (okQ_parts b2.ok).2.2.2.2.2
    have ht : topN Y = (valS X).natAbs * denQ Y := by rw [abs_top b2.ok, hY, Int.natAbs_mul, Int.natAbs_natCast]
    rw [ht, Nat.gcd_mul_left_left] at hg
    exact hg
  have es : subQ r Y = lowQ (decide (numQ r * denQ (negQ Y).1 + numQ (negQ Y).1 * denQ r < 0)) (numQ r * denQ (negQ Y).1 + numQ (negQ Y).1 * denQ r).natAbs (denQ r * denQ (negQ Y).1) := by
    unfold subQ
    rw [if_pos n1]
    unfold addQ
    rw [if_pos ⟨h, n2.ok⟩]
  rw [es, hN, hD, hY, h1]
  have hnum : (numQ r * ((1 : Nat) : Int) + -(valS X * ((1 : Nat) : Int)) * denQ r).natAbs < denQ r := by
    have : numQ r * ((1 : Nat) : Int) + -(valS X * ((1 : Nat) : Int)) * denQ r = -e := by
      have : -(valS X * ((1 : Nat) : Int)) * (denQ r : Int) = -(valS X * (denQ r : Int)) := by rw [Int.natCast_one, Int.mul_one, Int.neg_mul]
      rw [this, e1]
      omega
    rw [this]
    omega
  exact (low_is _ _ _ (by omega) (by have := p.dlt; omega) (by rw [Nat.mul_one]; exact p.dlt)).1
theorem rest_all {r : QI} {m : Int} (h : okQ r = true) (hm : modeB m = true) : roundR r m = (roundS r m, true) ∧ restB r m = true ∧ restS r m = roundS r m ∧ restQ r m = (subQ r (makeQ (roundS r m) (ofZ 1)).1).1 := by
  have e : roundR r m = (roundS r m, true) := by unfold roundR; rw [if_pos ⟨h, hm⟩]
  have b := rest_parts h m
  have eb : restB r m = true := by unfold restB; rw [e]; simp only; rw [b.1, b.2]; rfl
  refine ⟨e, eb, ?_, ?_⟩
  · unfold restS; rw [if_pos eb, e]
  · unfold restQ; rw [if_pos eb, e]
theorem rest_none {r : QI} {m : Int} (h : ¬ (okQ r = true ∧ modeB m = true)) : roundR r m = (zeroS, false) ∧ restB r m = false ∧ restS r m = zeroS ∧ restQ r m = zeroQ := by
  have e : roundR r m = (zeroS, false) := by unfold roundR; rw [if_neg h]
  have eb : restB r m = false := by unfold restB; rw [e]; rfl
  refine ⟨e, eb, ?_, ?_⟩
  · unfold restS; rw [if_neg (by rw [eb]; decide)]
  · unfold restQ; rw [if_neg (by rw [eb]; decide)]
theorem makeQ_szQ (x y : SI) : szQ (makeQ x y).1 ≤ 1048576 := by unfold makeQ; split; exact lowQ_sz _ _ _; decide
theorem subQ_szQ (x y : QI) : szQ (subQ x y).1 ≤ 1048576 := by unfold subQ; split; (unfold addQ; split; exact lowQ_sz _ _ _; decide); decide
theorem postSb_is {q : SI × Bool} {X : SI} {b : Bool} (e : q = (X, b)) {w w' : World} {n : Ending} (h : PostSb q.1 q.2 w n w') : PostSb X b w n w' := by rw [e] at h; exact h
theorem postQb_is {q : QI × Bool} {X : QI} {b : Bool} (e : q = (X, b)) {w w' : World} {n : Ending} (h : PostQb q.1 q.2 w n w') : PostQb X b w n w' := by rw [e] at h; exact h
theorem newSQb_zero {w W : World} (hW : Below w.heap.size w W) : PostSQb zeroS zeroQ false w (.returned (.tuple #[.agg #[.bool false, .slice none 0 0], .agg #[.bool false, .slice none 0 0, .slice none 0 0], .bool false])) W :=
  ⟨_, _, [], [], rfl, ⟨ownS_zero _, fun _ hg => absurd hg List.not_mem_nil, fun w' _ => ownS_zero w'⟩, ⟨ownQ_zero _, fun _ hg => absurd hg List.not_mem_nil, fun w' _ => ownQ_zero w'⟩, fun _ hg => absurd hg List.not_mem_nil, fun _ hg => absurd hg List.not_mem_nil, fun _ hg => absurd hg List.not_mem_nil, hW⟩
/-- a signed number in block r and a fraction in block p, in whatever order they were stored -/
theorem newSQb_at {r p B C : Nat} {S T : List Nat} {c0 c1 d0 d1 d2 : Value} {x : SI} {y : QI} {b : Bool} {w W : World} (o : At S (OwnS (.agg #[c0, c1]) x) W) (q : At T (OwnQ (.agg #[d0, d1, d2]) y) W)
    (l : Within S B W.heap.size) (k : Within T C W.heap.size) (hap : ∀ g ∈ S, g ∉ T) (hB : p < B) (hC : p < C) (hrp : r < p) (hr : w.heap.size ≤ r) (hp : w.heap.size ≤ p) (hW : Below w.heap.size w W) :
    ∀ W', Chg [r, p] W W' → PostSQb x y b w (.returned (.tuple #[.agg #[c0, c1], .agg #[d0, d1, d2], .bool b])) W' := by
  intro W' hc
  have hz := hc.size
  refine ⟨_, _, S, T, rfl, o.chg hc (fun i hi hm => ?_), q.chg hc (fun i hi hm => ?_), hap, fun i hi => ?_, fun i hi => ?_, below_chg hW hc hW.size (fun i hi => ?_)⟩
  · have := l i hi; simp at hm; omega
  · have := k i hi; simp at hm; omega
  · have := l i hi; omega
  · have := k i hi; omega
  · simp at hi; omega
end Go.Proofs.YthfkdofnoomhaaaGreatDoor

namespace Go.Proofs.YthfkdofnoomhaaaGreatDoor
open Go.RowKit

theorem ownS_open {u c : Value} {x : SI} {w : World} (h : OwnS (.agg #[c, u]) x w) : OwnI u x.2 w := by
  obtain ⟨u', e, hu⟩ := h
  injection e with e
  simp at e
  obtain ⟨_, e2⟩ := e
  subst e2
  exact hu
theorem OwnS.below {w W : World} {v : Value} {x : SI} (h : OwnS v x w) (hb : Below w.heap.size w W) : OwnS v x W := by
  obtain ⟨u, rfl, o⟩ := h
  exact ⟨u, rfl, own_below o hb⟩
theorem one_szS : szS (ofZ 1) ≤ 1048576 := by have := ofZ_len 1; unfold szS szI; omega
theorem postQb_eq {q Q : QI × Bool} (e : q = Q) {w w' : World} {n : Ending} (h : PostQb q.1 q.2 w n w') : PostQb Q.1 Q.2 w n w' := by rw [← e]; exact h
theorem postn_eq {z z' : Int} (e : z = z') {w w' : World} {n : Ending} (h : Postn z w n w') : Postn z' w n w' := by rw [← e]; exact h
theorem newQ_ret {r : Nat} {u d c0 c1 c2 : Value} {x : QI} {w W : World} {B C : Nat} (hb : BoxAt r #[c0, c1, c2] 34 W) (o : W.ownsRow B 3 1 u x.1.2.length (intsV x.1.2)) (p : W.ownsRow C 3 1 d x.2.length (intsV x.2))
    (hap : ∀ g, u.ownBlock = some g → d.ownBlock ≠ some g) (hB : w.heap.size ≤ B) (hC : w.heap.size ≤ C) (hr : w.heap.size ≤ r) (hW : Below w.heap.size w W) :
    NewV (fun v => OwnQ v x) w (.returned (.agg #[.bool x.1.1, u, d])) (((W.setCell ⟨r, 0, none⟩ (.bool x.1.1)).setCell ⟨r, 1, none⟩ u).setCell ⟨r, 2, none⟩ d) := by
  obtain ⟨v, S, e, k1, k2, k3⟩ := newQb_ret (b := true) hb o p hap hB hC hr hW
  refine ⟨v, S, ?_, k1, k2, k3⟩
  injection e with e
  injection e with e
  simp at e
  rw [e]
theorem OwnQ.below {w W : World} {v : Value} {x : QI} (h : OwnQ v x w) (hb : Below w.heap.size w W) : OwnQ v x W := by
  obtain ⟨u, d, rfl, o, p, hap⟩ := h
  exact ⟨u, d, rfl, own_below o hb, own_below p hb, hap⟩
set_option maxHeartbeats 2000000 in
set_option maxRecDepth 100000 in
theorem specRatDiv_any (vr : Value) (vs : Value) (r s : QI) (w : World) (hzr : szQ r ≤ 1048576) (hzs : szQ s ≤ 1048576) (hr : OwnQ vr r w) (hs : OwnQ vs s w) :
    Calls Tryz.prog 79 #[vr, vs] w (PostQb (divQ r s).1 (divQ r s).2 w) := by
  have Hr := Lib.hid hr
  obtain ⟨Ar, cr, Br, dr, rfl⟩ := ownQ_form hr
  have OQr := Lib.hid (show ∀ W, Below w.heap.size w W → OwnQ (.agg #[.bool r.1.1, .slice Ar r.1.2.length cr, .slice Br r.2.length dr]) r W from fun W hb => OwnQ.below Hr.out hb)
  have OUr := Lib.hid (show ∀ W, Below w.heap.size w W → OwnI (.slice Ar r.1.2.length cr) r.1.2 W from fun W hb => (ownQ_open (OQr.out W hb)).2.1)
  have ODr := Lib.hid (show ∀ W, Below w.heap.size w W → OwnI (.slice Br r.2.length dr) r.2 W from fun W hb => (ownQ_open (OQr.out W hb)).2.2.1)
  have OSr := Lib.hid (show ∀ W, Below w.heap.size w W → OwnS (.agg #[.bool r.1.1, .slice Ar r.1.2.length cr]) r.1 W from fun W hb => OwnS.mk (OUr.out W hb))
  clear hr
  have Hs := Lib.hid hs
  obtain ⟨As, cs, Bs, ds, rfl⟩ := ownQ_form hs
  have OQs := Lib.hid (show ∀ W, Below w.heap.size w W → OwnQ (.agg #[.bool s.1.1, .slice As s.1.2.length cs, .slice Bs s.2.length ds]) s W from fun W hb => OwnQ.below Hs.out hb)
  have OUs := Lib.hid (show ∀ W, Below w.heap.size w W → OwnI (.slice As s.1.2.length cs) s.1.2 W from fun W hb => (ownQ_open (OQs.out W hb)).2.1)
  have ODs := Lib.hid (show ∀ W, Below w.heap.size w W → OwnI (.slice Bs s.2.length ds) s.2 W from fun W hb => (ownQ_open (OQs.out W hb)).2.2.1)
  have OSs := Lib.hid (show ∀ W, Below w.heap.size w W → OwnS (.agg #[.bool s.1.1, .slice As s.1.2.length cs]) s.1 W from fun W hb => OwnS.mk (OUs.out W hb))
  clear hs
  have hlr := szQ_len hzr
  have hl1r := hlr.1
  have hl2r := hlr.2
  clear hlr
  have hls := szQ_len hzs
  have hl1s := hls.1
  have hl2s := hls.2
  clear hls
  have bb0 : Below w.heap.size w (((w.alloc (.cells #[.bool r.1.1, .slice Ar r.1.2.length cr, .slice Br r.2.length dr] 34)).alloc (.cells #[.bool s.1.1, .slice As s.1.2.length cs, .slice Bs s.2.length ds] 34)).alloc (.cells #[.bool false, .slice none 0 0, .slice none 0 0] 34)) := below_al (below_al (below_al (Below.refl _ _) _) _) _
  have kr := (box_new w #[.bool r.1.1, .slice Ar r.1.2.length cr, .slice Br r.2.length dr] 34).below (below_al (below_al (Below.refl _ _) (.cells #[.bool s.1.1, .slice As s.1.2.length cs, .slice Bs s.2.length ds] 34)) (.cells #[.bool false, .slice none 0 0, .slice none 0 0] 34))
  have ks := (box_new (w.alloc (.cells #[.bool r.1.1, .slice Ar r.1.2.length cr, .slice Br r.2.length dr] 34)) #[.bool s.1.1, .slice As s.1.2.length cs, .slice Bs s.2.length ds] 34).below (below_al (Below.refl _ _) (.cells #[.bool false, .slice none 0 0, .slice none 0 0] 34))
  rw [show (w.alloc (.cells #[.bool r.1.1, .slice Ar r.1.2.length cr, .slice Br r.2.length dr] 34)).heap.size = w.heap.size + 1 by simp] at ks
  have ko := (box_new ((w.alloc (.cells #[.bool r.1.1, .slice Ar r.1.2.length cr, .slice Br r.2.length dr] 34)).alloc (.cells #[.bool s.1.1, .slice As s.1.2.length cs, .slice Bs s.2.length ds] 34)) #[.bool false, .slice none 0 0, .slice none 0 0] 34)
  rw [show ((w.alloc (.cells #[.bool r.1.1, .slice Ar r.1.2.length cr, .slice Br r.2.length dr] 34)).alloc (.cells #[.bool s.1.1, .slice As s.1.2.length cs, .slice Bs s.2.length ds] 34)).heap.size = w.heap.size + 1 + 1 by simp] at ko
  go_enter Tryz.func79, Tryz.ntmps79
  have kr_c0 := kr.here.cell 0 _ rfl
  have kr_c1 := kr.here.cell 1 _ rfl
  have kr_c2 := kr.here.cell 2 _ rfl
  go_wp2_with fail
  clear kr_c0 kr_c1 kr_c2
  refine (specRatOk_any _ r _ hzr (OQr.out _ bb0)).mono ?_
  rintro e w1 ⟨rfl, b1⟩
  have bb1 := Below.next bb0 b1
  replace kr := kr.below b1
  replace ks := ks.below b1
  replace ko := ko.below b1
  by_cases okr : okQ r = true
  · rw [okr]
    have HOr := Lib.hid okr
    clear okr
    have ks_c0 := ks.here.cell 0 _ rfl
    have ks_c1 := ks.here.cell 1 _ rfl
    have ks_c2 := ks.here.cell 2 _ rfl
    go_wp2_with fail
    clear ks_c0 ks_c1 ks_c2
    refine (specRatOk_any _ s _ hzs (OQs.out _ bb1)).mono ?_
    rintro e w2 ⟨rfl, b2⟩
    have bb2 := Below.next bb1 b2
    replace kr := kr.below b2
    replace ks := ks.below b2
    replace ko := ko.below b2
    by_cases oks : okQ s = true
    · rw [oks]
      have HOs := Lib.hid oks
      clear oks
      have Pr := parts_of HOr.out
      have Ps := parts_of HOs.out
      have HPr := Lib.hid Pr
      have HPs := Lib.hid Ps
      have hnr := Pr.n50
      have hns := Ps.n50
      have hdr := Pr.d50
      have hds := Ps.d50
      have z0 := bb2.size
      have hko := ko.lt (w.heap.size + 1 + 1) (by simp)
      have H1 := Lib.hid (show (limbs (nval (r.1.2) * nval (s.2)).toNat).length ≤ 50 by rw [mul_toNat (okS_parts HPr.out.okn).1 HPs.out.okd]; exact Nat.le_trans (prod_len HPr.out.nlt HPs.out.dlt) (by decide))
      have H2 := Lib.hid (show (limbs (nval (r.2) * nval (s.1.2)).toNat).length ≤ 50 by rw [mul_toNat HPr.out.okd (okS_parts HPs.out.okn).1]; exact Nat.le_trans (prod_len HPr.out.dlt HPs.out.nlt) (by decide))
      have HV := Lib.hid (show divQ r s = lowQ (!(r.1.1 == s.1.1)) (nval (r.1.2) * nval (s.2)).toNat (nval (r.2) * nval (s.1.2)).toNat by unfold divQ; rw [if_pos ⟨HOr.out, HOs.out⟩, mul_toNat (okS_parts HPr.out.okn).1 HPs.out.okd, mul_toNat HPr.out.okd (okS_parts HPs.out.okn).1]; rfl)
      clear Pr Ps
      have kr_c0 := kr.here.cell 0 _ rfl
      have kr_c1 := kr.here.cell 1 _ rfl
      have kr_c2 := kr.here.cell 2 _ rfl
      have ks_c0 := ks.here.cell 0 _ rfl
      have ks_c1 := ks.here.cell 1 _ rfl
      have ks_c2 := ks.here.cell 2 _ rfl
      go_wp2_with fail
      have HC0 := Lib.hid (show Chg [w.heap.size + 1 + 1] w2 w2.drew from (Chg.refl _ _).drew1)
      have HCr := Lib.hid (show Chg [w.heap.size + 1 + 1] w2 w2 from Chg.refl _ _)
      have KL := Lib.hid (show ∀ W, Chg [w.heap.size + 1 + 1] w2 W → W.cell? ⟨w.heap.size, 0, none⟩ = some (.bool r.1.1) ∧ W.cell? ⟨w.heap.size, 1, none⟩ = some (.slice Ar r.1.2.length cr) ∧ W.cell? ⟨w.heap.size, 2, none⟩ = some (.slice Br r.2.length dr) ∧ W.cell? ⟨w.heap.size + 1, 0, none⟩ = some (.bool s.1.1) ∧ W.cell? ⟨w.heap.size + 1, 1, none⟩ = some (.slice As s.1.2.length cs) ∧ W.cell? ⟨w.heap.size + 1, 2, none⟩ = some (.slice Bs s.2.length ds) ∧ Hid (Chg [w.heap.size + 1 + 1] w2 W) from fun W hc => ⟨(kr.chg hc (fun i hi hm => by simp at hi hm; omega)).here.cell 0 _ rfl, (kr.chg hc (fun i hi hm => by simp at hi hm; omega)).here.cell 1 _ rfl, (kr.chg hc (fun i hi hm => by simp at hi hm; omega)).here.cell 2 _ rfl, (ks.chg hc (fun i hi hm => by simp at hi hm; omega)).here.cell 0 _ rfl, (ks.chg hc (fun i hi hm => by simp at hi hm; omega)).here.cell 1 _ rfl, (ks.chg hc (fun i hi hm => by simp at hi hm; omega)).here.cell 2 _ rfl, Lib.hid hc⟩)
      have BBF := Lib.hid (show ∀ W, Chg [w.heap.size + 1 + 1] w2 W → Below w.heap.size w W from fun W hc => below_chg bb2 hc bb2.size (fun i hi => by simp at hi; omega))
      clear kr_c0 kr_c1 kr_c2 ks_c0 ks_c1 ks_c2
      go_region_held3 (fun W => W.cell? ⟨w.heap.size, 0, none⟩ = some (.bool r.1.1) ∧ W.cell? ⟨w.heap.size, 1, none⟩ = some (.slice Ar r.1.2.length cr) ∧ W.cell? ⟨w.heap.size, 2, none⟩ = some (.slice Br r.2.length dr) ∧ W.cell? ⟨w.heap.size + 1, 0, none⟩ = some (.bool s.1.1) ∧ W.cell? ⟨w.heap.size + 1, 1, none⟩ = some (.slice As s.1.2.length cs) ∧ W.cell? ⟨w.heap.size + 1, 2, none⟩ = some (.slice Bs s.2.length ds) ∧ Hid (Chg [w.heap.size + 1 + 1] w2 W))
        ((refine KL.out _ ?_; (first | exact HC5.out | exact HC4.out | exact HC3.out | exact HCr.out | exact HC0.out | exact HC5.out.drew1 | exact HC4.out.drew1 | exact HC3.out.drew1 | exact HCr.out.drew1 | exact HC0.out.drew1 | exact HC5.out.trans (Chg.of_below (below_al (Below.refl _ _) _)) | exact HC4.out.trans (Chg.of_below (below_al (Below.refl _ _) _)) | exact HC3.out.trans (Chg.of_below (below_al (Below.refl _ _) _)) | exact HCr.out.trans (Chg.of_below (below_al (Below.refl _ _) _)) | exact HC0.out.trans (Chg.of_below (below_al (Below.refl _ _) _)) | exact (Chg.setCell HC5.out (by simp) _) | exact (Chg.setCell (Chg.setCell HC5.out (by simp) _) (by simp) _) | exact (Chg.setCell (Chg.setCell (Chg.setCell HC5.out (by simp) _) (by simp) _) (by simp) _) | fail)))
        (first
          | (go_at_call 63; (have hBB := (‹_ ∧ _ ∧ _ ∧ _ ∧ _ ∧ _ ∧ Hid (Chg [w.heap.size + 1 + 1] w2 _)›).2.2.2.2.2.2); (with_reducible refine (specMulV_any _ _ (r.1.2) (s.2) 0 _ 0 _ _ (by omega) (by omega) (Nat.le_refl _) (Nat.le_refl _) (natOk_parts (okS_parts HPr.out.okn).1).1 (natOk_parts HPs.out.okd).1 (OUr.out _ (BBF.out _ hBB.out)).row (ODs.out _ (BBF.out _ hBB.out)).row).mono ?_); rintro e w3 ⟨ua, rfl, oa_, b3⟩; have HC3 := Lib.hid (hBB.out.trans (Chg.of_below b3)); (have ko_3 := At.below (by first | exact ko | exact At.below ko (below_al (Below.refl _ _) _) | exact At.below (At.below ko (below_al (Below.refl _ _) _)) (below_al (Below.refl _ _) _) | exact At.move ko (fun _ _ => rfl) (Nat.le_refl _)) b3); have oa := own_at' oa_; have HBZ3 := Lib.hid hBB.out.size; clear hBB)
          | (go_at_call 63; (have hBB := (‹_ ∧ _ ∧ _ ∧ _ ∧ _ ∧ _ ∧ Hid (Chg [w.heap.size + 1 + 1] w2 _)›).2.2.2.2.2.2); (with_reducible refine (specMulV_any _ _ (r.2) (s.1.2) 0 _ 0 _ _ (by omega) (by omega) (Nat.le_refl _) (Nat.le_refl _) (natOk_parts HPr.out.okd).1 (natOk_parts (okS_parts HPs.out.okn).1).1 (ODr.out _ (BBF.out _ hBB.out)).row (OUs.out _ (BBF.out _ hBB.out)).row).mono ?_); rintro e w4 ⟨ub, rfl, ob_, b4⟩; have HC4 := Lib.hid (hBB.out.trans (Chg.of_below b4)); (have ko_4 := At.below (by first | exact ko_3 | exact At.below ko_3 (below_al (Below.refl _ _) _) | exact At.below (At.below ko_3 (below_al (Below.refl _ _) _)) (below_al (Below.refl _ _) _) | exact At.move ko_3 (fun _ _ => rfl) (Nat.le_refl _)) b4); (have oa_4 := At.below (by first | exact oa | exact At.below oa (below_al (Below.refl _ _) _) | exact At.below (At.below oa (below_al (Below.refl _ _) _)) (below_al (Below.refl _ _) _) | exact At.move oa (fun _ _ => rfl) (Nat.le_refl _)) b4); have ob := own_at' ob_; have HBZ4 := Lib.hid hBB.out.size; clear hBB)
          | (go_at_call 151; (have hBB := (‹_ ∧ _ ∧ _ ∧ _ ∧ _ ∧ _ ∧ Hid (Chg [w.heap.size + 1 + 1] w2 _)›).2.2.2.2.2.2); (with_reducible refine (l05Low_any _ _ _ ((nval (r.1.2) * nval (s.2)).toNat) ((nval (r.2) * nval (s.1.2)).toNat) _ H1.out H2.out (At.here (by first | exact oa_4 | exact At.below oa_4 (below_al (Below.refl _ _) _) | exact At.below (At.below oa_4 (below_al (Below.refl _ _) _)) (below_al (Below.refl _ _) _) | exact At.move oa_4 (fun _ _ => rfl) (Nat.le_refl _))) (At.here (by first | exact ob | exact At.below ob (below_al (Below.refl _ _) _) | exact At.below (At.below ob (below_al (Below.refl _ _) _)) (below_al (Below.refl _ _) _) | exact At.move ob (fun _ _ => rfl) (Nat.le_refl _)))).mono ?_); rintro e w5 ⟨uf, Sf, rfl, of, lf, b5⟩; have HC5 := Lib.hid (hBB.out.trans (Chg.of_below b5)); (have ko_5 := At.below (by first | exact ko_4 | exact At.below ko_4 (below_al (Below.refl _ _) _) | exact At.below (At.below ko_4 (below_al (Below.refl _ _) _)) (below_al (Below.refl _ _) _) | exact At.move ko_4 (fun _ _ => rfl) (Nat.le_refl _)) b5); (have oa_5 := At.below (by first | exact oa_4 | exact At.below oa_4 (below_al (Below.refl _ _) _) | exact At.below (At.below oa_4 (below_al (Below.refl _ _) _)) (below_al (Below.refl _ _) _) | exact At.move oa_4 (fun _ _ => rfl) (Nat.le_refl _)) b5); (have ob_5 := At.below (by first | exact ob | exact At.below ob (below_al (Below.refl _ _) _) | exact At.below (At.below ob (below_al (Below.refl _ _) _)) (below_al (Below.refl _ _) _) | exact At.move ob (fun _ _ => rfl) (Nat.le_refl _)) b5); obtain ⟨Af, cf, Bf, df, rfl⟩ := ownQ_form of.here; have cz0 := ko_5.here.cell 0 _ rfl; have fz0 := Lib.frozen_of_heap ko_5.here 0; have cz1 := ko_5.here.cell 1 _ rfl; have fz1 := Lib.frozen_of_heap ko_5.here 1; have cz2 := ko_5.here.cell 2 _ rfl; have fz2 := Lib.frozen_of_heap ko_5.here 2; have HBZ5 := Lib.hid hBB.out.size; clear hBB))
      have bb5 := BBF.out _ HC5.out
      replace kr := kr.chg HC5.out (fun i hi hm => by simp at hi hm; omega)
      replace ks := ks.chg HC5.out (fun i hi hm => by simp at hi hm; omega)
      replace ko := ko_5
      have oa := oa_5
      have ob := ob_5
      have HW := Lib.hid (newQb_at (r := w.heap.size + 1 + 1) (b := (lowQ (!(r.1.1 == s.1.1)) ((nval (r.1.2) * nval (s.2)).toNat) ((nval (r.2) * nval (s.1.2)).toNat)).2) of lf (by have := HBZ5.out; omega) (by omega) bb5)
      clear of ko kr ks oa ob z0 hko
      go_wp2
      refine bodyPost_ret (v := .tuple #[.agg #[.bool _, .slice Af _ cf, .slice Bf _ df], .bool _]) (by simp [results, Tryz.results79, go_sem, cz0, cz1, cz2]; exact ⟨⟨rfl, rfl, rfl⟩, rfl⟩) rfl ?_
      rw [HV.out]
      exact HW.out
    · have oks' : okQ s = false := by simpa using oks
      have HV := Lib.hid (show divQ r s = (zeroQ, false) by unfold divQ; rw [if_neg (fun h => oks h.2)])
      rw [oks']
      clear oks oks'
      have ko_c0 := ko.here.cell 0 _ rfl
      have ko_c1 := ko.here.cell 1 _ rfl
      have ko_c2 := ko.here.cell 2 _ rfl
      have cz0 := ko.here.cell 0 _ rfl
      have fz0 := Lib.frozen_of_heap ko.here 0
      have cz1 := ko.here.cell 1 _ rfl
      have fz1 := Lib.frozen_of_heap ko.here 1
      have cz2 := ko.here.cell 2 _ rfl
      have fz2 := Lib.frozen_of_heap ko.here 2
      go_wp2
      refine bodyPost_ret (v := .tuple #[.agg #[.bool false, .slice none 0 0, .slice none 0 0], .bool false]) (by simp [results, Tryz.results79, go_sem, cz0, cz1, cz2]) rfl ?_
      rw [HV.out]
      first | exact newQb_zero _ bb2 | exact newQb_zero _ (below_set3 bb2 (by omega))
  · have okr' : okQ r = false := by simpa using okr
    have HV := Lib.hid (show divQ r s = (zeroQ, false) by unfold divQ; rw [if_neg (fun h => okr h.1)])
    rw [okr']
    clear okr okr'
    have ko_c0 := ko.here.cell 0 _ rfl
    have ko_c1 := ko.here.cell 1 _ rfl
    have ko_c2 := ko.here.cell 2 _ rfl
    have cz0 := ko.here.cell 0 _ rfl
    have fz0 := Lib.frozen_of_heap ko.here 0
    have cz1 := ko.here.cell 1 _ rfl
    have fz1 := Lib.frozen_of_heap ko.here 1
    have cz2 := ko.here.cell 2 _ rfl
    have fz2 := Lib.frozen_of_heap ko.here 2
    go_wp2
    refine bodyPost_ret (v := .tuple #[.agg #[.bool false, .slice none 0 0, .slice none 0 0], .bool false]) (by simp [results, Tryz.results79, go_sem, cz0, cz1, cz2]) rfl ?_
    rw [HV.out]
    first | exact newQb_zero _ bb1 | exact newQb_zero _ (below_set3 bb1 (by omega))
end Go.Proofs.YthfkdofnoomhaaaGreatDoor

namespace Go.Proofs.YthfkdofnoomhaaaGreatDoor
open Go.RowKit

set_option maxHeartbeats 1000000 in
set_option maxRecDepth 100000 in
theorem specRatZero_any (w : World) : Calls Tryz.prog 178 #[] w (NewV (fun v => OwnQ v oneQ) w) := by
  have hs : (w.alloc (.cells #[.bool false, .slice none 0 0, .slice (some ⟨w.heap.size + 1, 0, none⟩) 1 1] 34)).heap.size = w.heap.size + 1 := by simp
  have od : ((w.alloc (.cells #[.bool false, .slice none 0 0, .slice (some ⟨w.heap.size + 1, 0, none⟩) 1 1] 34)).alloc (.cells #[.int .i64 1] 3)).ownsRow w.heap.size 3 1 (.slice (some ⟨w.heap.size + 1, 0, none⟩) 1 1) 1 [.int .i64 1] := by
    have h := World.ownsRow_lit (base := w.heap.size) (e := 3) (size := 1) (w.alloc (.cells #[.bool false, .slice none 0 0, .slice (some ⟨w.heap.size + 1, 0, none⟩) 1 1] 34)) #[.int .i64 1] 1 (by omega) (by unfold maxLen; omega) rfl
    rw [hs] at h
    exact h
  have bb := below_al (below_al (Below.refl w.heap.size w) (.cells #[.bool false, .slice none 0 0, .slice (some ⟨w.heap.size + 1, 0, none⟩) 1 1] 34)) (.cells #[.int .i64 1] 3)
  have HR := Lib.hid (show NewV (fun v => OwnQ v oneQ) w (.returned (.agg #[.bool false, .slice none 0 0, .slice (some ⟨w.heap.size + 1, 0, none⟩) 1 1])) _ from
    ⟨_, _, rfl, partsQ_at (x := oneQ) (World.ownsRow_nil _ 0 _ _) od (fun g hg => by cases hg), (fun g hg => by
      rcases List.mem_append.1 hg with hg | hg
      · cases hg
      · exact own_within od g hg), bb⟩)
  clear od bb hs
  go_enter Tryz.func178, Tryz.ntmps178
  go_wp2
  refine bodyPost_ret (v := .agg #[.bool false, .slice none 0 0, .slice (some ⟨w.heap.size + 1, 0, none⟩) 1 1]) (by simp [results, Tryz.results178, go_sem]) rfl ?_
  exact HR.out
set_option maxHeartbeats 2000000 in
set_option maxRecDepth 100000 in
theorem specRatMake_any (va vb : Value) (a b : SI) (w : World) (hza : szS a ≤ 1048576) (hzb : szS b ≤ 1048576) (ha : OwnS va a w) (hb : OwnS vb b w) :
    Calls Tryz.prog 117 #[va, vb] w (PostQb (makeQ a b).1 (makeQ a b).2 w) := by
  have Ha := Lib.hid ha
  obtain ⟨Aa, ca, rfl⟩ := ownS_form ha
  have OSa := Lib.hid (show ∀ W, Below w.heap.size w W → OwnS (.agg #[.bool a.1, .slice Aa a.2.length ca]) a W from fun W hb => OwnS.below Ha.out hb)
  have OIa := Lib.hid (show ∀ W, Below w.heap.size w W → OwnI (.slice Aa a.2.length ca) a.2 W from fun W hb => ownS_open (OSa.out W hb))
  clear ha
  have Hb := Lib.hid hb
  obtain ⟨Ab, cb, rfl⟩ := ownS_form hb
  have OSb := Lib.hid (show ∀ W, Below w.heap.size w W → OwnS (.agg #[.bool b.1, .slice Ab b.2.length cb]) b W from fun W hb => OwnS.below Hb.out hb)
  have OIb := Lib.hid (show ∀ W, Below w.heap.size w W → OwnI (.slice Ab b.2.length cb) b.2 W from fun W hb => ownS_open (OSb.out W hb))
  clear hb
  have hla : a.2.length ≤ 1048576 := by unfold szS szI at hza; omega
  have hlb : b.2.length ≤ 1048576 := by unfold szS szI at hzb; omega
  clear hza hzb
  have bb0 : Below w.heap.size w (((w.alloc (.cells #[.bool a.1, .slice Aa a.2.length ca] 28)).alloc (.cells #[.bool b.1, .slice Ab b.2.length cb] 28)).alloc (.cells #[.bool false, .slice none 0 0, .slice none 0 0] 34)) := below_al (below_al (below_al (Below.refl _ _) _) _) _
  have ka := (box_new w #[.bool a.1, .slice Aa a.2.length ca] 28).below (below_al (below_al (Below.refl _ _) (.cells #[.bool b.1, .slice Ab b.2.length cb] 28)) (.cells #[.bool false, .slice none 0 0, .slice none 0 0] 34))
  have kb := (box_new (w.alloc (.cells #[.bool a.1, .slice Aa a.2.length ca] 28)) #[.bool b.1, .slice Ab b.2.length cb] 28).below (below_al (Below.refl _ _) (.cells #[.bool false, .slice none 0 0, .slice none 0 0] 34))
  rw [show (w.alloc (.cells #[.bool a.1, .slice Aa a.2.length ca] 28)).heap.size = w.heap.size + 1 by simp] at kb
  have ko := (box_new ((w.alloc (.cells #[.bool a.1, .slice Aa a.2.length ca] 28)).alloc (.cells #[.bool b.1, .slice Ab b.2.length cb] 28)) #[.bool false, .slice none 0 0, .slice none 0 0] 34)
  rw [show ((w.alloc (.cells #[.bool a.1, .slice Aa a.2.length ca] 28)).alloc (.cells #[.bool b.1, .slice Ab b.2.length cb] 28)).heap.size = w.heap.size + 1 + 1 by simp] at ko
  go_enter Tryz.func117, Tryz.ntmps117
  have ka_c0 := ka.here.cell 0 _ rfl
  have ka_c1 := ka.here.cell 1 _ rfl
  go_wp2_with fail
  clear ka_c0 ka_c1
  refine (specIntOk_any _ a _ hla (OwnS.rd (OSa.out _ bb0))).mono ?_
  rintro e w1 ⟨rfl, b1⟩
  have bb1 := Below.next bb0 b1
  replace ka := ka.below b1
  replace kb := kb.below b1
  replace ko := ko.below b1
  by_cases oka : okS a = true
  · rw [oka]
    have HOa := Lib.hid oka
    clear oka
    have kb_c0 := kb.here.cell 0 _ rfl
    have kb_c1 := kb.here.cell 1 _ rfl
    go_wp2_with fail
    clear kb_c0 kb_c1
    refine (specIntOk_any _ b _ hlb (OwnS.rd (OSb.out _ bb1))).mono ?_
    rintro e w2 ⟨rfl, b2⟩
    have bb2 := Below.next bb1 b2
    replace ka := ka.below b2
    replace kb := kb.below b2
    replace ko := ko.below b2
    by_cases okb : okS b = true
    · rw [okb]
      have HOb := Lib.hid okb
      clear okb
      have HKO := Lib.hid (ko.lt (w.heap.size + 1 + 1) (by simp))
      have Ea := Lib.hid (natOk_limbs (okS_parts HOa.out).1)
      have Eb := Lib.hid (natOk_limbs (okS_parts HOb.out).1)
      obtain ⟨Na, hNa⟩ : ∃ Na, (nval a.2).toNat = Na := ⟨_, rfl⟩
      have Ea := Lib.hid (show a.2 = limbs Na by rw [← hNa]; exact natOk_limbs (okS_parts HOa.out).1)
      have La := Lib.hid (show (limbs Na).length ≤ 50 by rw [← Ea.out]; exact (natOk_parts (okS_parts HOa.out).1).2.1)
      obtain ⟨Nb, hNb⟩ : ∃ Nb, (nval b.2).toNat = Nb := ⟨_, rfl⟩
      have Eb := Lib.hid (show b.2 = limbs Nb by rw [← hNb]; exact natOk_limbs (okS_parts HOb.out).1)
      have Lb := Lib.hid (show (limbs Nb).length ≤ 50 by rw [← Eb.out]; exact (natOk_parts (okS_parts HOb.out).1).2.1)
      have HV := Lib.hid (show makeQ a b = lowQ (!(a.1 == b.1)) Na Nb by unfold makeQ; rw [if_pos ⟨HOa.out, HOb.out⟩, hNa, hNb]; rfl)
      clear hNa hNb
      have ka_c0 := ka.here.cell 0 _ rfl
      have ka_c1 := ka.here.cell 1 _ rfl
      have kb_c0 := kb.here.cell 0 _ rfl
      have kb_c1 := kb.here.cell 1 _ rfl
      go_wp2_with fail
      clear ka_c0 ka_c1 kb_c0 kb_c1
      refine (lowX_any _ _ _ a.2 b.2 Na Nb _ La.out Lb.out Ea.out Eb.out (OIa.out _ bb2) (OIb.out _ bb2)).mono ?_
      rintro e w3 ⟨uf, Sf, rfl, of, lf, b3⟩
      obtain ⟨Af, cf, Bf, df, rfl⟩ := ownQ_form of.here
      have bb3 := Below.next bb2 b3
      replace ka := ka.below b3
      replace kb := kb.below b3
      replace ko := ko.below b3
      have HW := Lib.hid (newQb_at (r := w.heap.size + 1 + 1) (b := (lowQ (!(a.1 == b.1)) Na Nb).2) of lf (by have := HKO.out; omega) (by omega) bb3)
      have cz0 := ko.here.cell 0 _ rfl
      have fz0 := Lib.frozen_of_heap ko.here 0
      have cz1 := ko.here.cell 1 _ rfl
      have fz1 := Lib.frozen_of_heap ko.here 1
      have cz2 := ko.here.cell 2 _ rfl
      have fz2 := Lib.frozen_of_heap ko.here 2
      clear of ko
      go_wp2
      refine bodyPost_ret (v := .tuple #[.agg #[.bool _, .slice Af _ cf, .slice Bf _ df], .bool _]) (by simp [results, Tryz.results117, go_sem, cz0, cz1, cz2]; exact ⟨⟨rfl, rfl, rfl⟩, rfl⟩) rfl ?_
      rw [HV.out]
      exact HW.out
    · have okb' : okS b = false := by simpa using okb
      have HV := Lib.hid (show makeQ a b = (zeroQ, false) by unfold makeQ; rw [if_neg (fun h => okb h.2)])
      rw [okb']
      clear okb okb'
      have ko_c0 := ko.here.cell 0 _ rfl
      have ko_c1 := ko.here.cell 1 _ rfl
      have ko_c2 := ko.here.cell 2 _ rfl
      have cz0 := ko.here.cell 0 _ rfl
      have fz0 := Lib.frozen_of_heap ko.here 0
      have cz1 := ko.here.cell 1 _ rfl
      have fz1 := Lib.frozen_of_heap ko.here 1
      have cz2 := ko.here.cell 2 _ rfl
      have fz2 := Lib.frozen_of_heap ko.here 2
      go_wp2
      refine bodyPost_ret (v := .tuple #[.agg #[.bool false, .slice none 0 0, .slice none 0 0], .bool false]) (by simp [results, Tryz.results117, go_sem, cz0, cz1, cz2]) rfl ?_
      rw [HV.out]
      first | exact newQb_zero _ bb2 | exact newQb_zero _ (below_set3 bb2 (by omega))
  · have oka' : okS a = false := by simpa using oka
    have HV := Lib.hid (show makeQ a b = (zeroQ, false) by unfold makeQ; rw [if_neg (fun h => oka h.1)])
    rw [oka']
    clear oka oka'
    have ko_c0 := ko.here.cell 0 _ rfl
    have ko_c1 := ko.here.cell 1 _ rfl
    have ko_c2 := ko.here.cell 2 _ rfl
    have cz0 := ko.here.cell 0 _ rfl
    have fz0 := Lib.frozen_of_heap ko.here 0
    have cz1 := ko.here.cell 1 _ rfl
    have fz1 := Lib.frozen_of_heap ko.here 1
    have cz2 := ko.here.cell 2 _ rfl
    have fz2 := Lib.frozen_of_heap ko.here 2
    go_wp2
    refine bodyPost_ret (v := .tuple #[.agg #[.bool false, .slice none 0 0, .slice none 0 0], .bool false]) (by simp [results, Tryz.results117, go_sem, cz0, cz1, cz2]) rfl ?_
    rw [HV.out]
    first | exact newQb_zero _ bb1 | exact newQb_zero _ (below_set3 bb1 (by omega))
set_option maxHeartbeats 2000000 in
set_option maxRecDepth 100000 in
theorem specRatInt_any (va : Value) (a : SI) (w : World) (hza : szS a ≤ 1048576) (ha : OwnS va a w) :
    Calls Tryz.prog 112 #[va] w (PostQb (makeQ a (ofZ 1)).1 (makeQ a (ofZ 1)).2 w) := by
  have Ha := Lib.hid ha
  obtain ⟨Aa, ca, rfl⟩ := ownS_form ha
  have OSa := Lib.hid (show ∀ W, Below w.heap.size w W → OwnS (.agg #[.bool a.1, .slice Aa a.2.length ca]) a W from fun W hb => OwnS.below Ha.out hb)
  have OIa := Lib.hid (show ∀ W, Below w.heap.size w W → OwnI (.slice Aa a.2.length ca) a.2 W from fun W hb => ownS_open (OSa.out W hb))
  clear ha
  have bb0 : Below w.heap.size w ((w.alloc (.cells #[.bool a.1, .slice Aa a.2.length ca] 28)).alloc (.cells #[.bool false, .slice none 0 0, .slice none 0 0] 34)) := below_al (below_al (Below.refl _ _) _) _
  have ka := (box_new w #[.bool a.1, .slice Aa a.2.length ca] 28).below (below_al (Below.refl _ _) (.cells #[.bool false, .slice none 0 0, .slice none 0 0] 34))
  have ko := (box_new (w.alloc (.cells #[.bool a.1, .slice Aa a.2.length ca] 28)) #[.bool false, .slice none 0 0, .slice none 0 0] 34)
  rw [show (w.alloc (.cells #[.bool a.1, .slice Aa a.2.length ca] 28)).heap.size = w.heap.size + 1 by simp] at ko
  have HKO := Lib.hid (ko.lt (w.heap.size + 1) (by simp))
  obtain ⟨Q, hQ⟩ : ∃ Q, makeQ a (ofZ 1) = Q := ⟨_, rfl⟩
  have EQ := Lib.hid hQ
  rw [hQ]
  clear hQ
  obtain ⟨W0, hW0⟩ : ∃ W0, W0 = ((w.alloc (.cells #[.bool a.1, .slice Aa a.2.length ca] 28)).alloc (.cells #[.bool false, .slice none 0 0, .slice none 0 0] 34)) := ⟨_, rfl⟩
  rw [← hW0] at bb0 ka ko HKO
  have HW0 := Lib.hid hW0
  clear hW0
  have hz0 := HKO.out
  go_enter Tryz.func112, Tryz.ntmps112
  have ka_c0 := ka.here.cell 0 _ rfl
  have ka_c1 := ka.here.cell 1 _ rfl
  go_wp2_with fail
  rw [← HW0.out]
  have HC0 := Lib.hid (show Chg [w.heap.size + 1] W0 W0.drew from (Chg.refl _ _).drew1)
  have HCr := Lib.hid (show Chg [w.heap.size + 1] W0 W0 from Chg.refl _ _)
  have KL := Lib.hid (show ∀ W, Chg [w.heap.size + 1] W0 W → W.cell? ⟨w.heap.size, 0, none⟩ = some (.bool a.1) ∧ W.cell? ⟨w.heap.size, 1, none⟩ = some (.slice Aa a.2.length ca) ∧ Hid (Chg [w.heap.size + 1] W0 W) from fun W hc => ⟨(ka.chg hc (fun i hi hm => by simp at hi hm; omega)).here.cell 0 _ rfl, (ka.chg hc (fun i hi hm => by simp at hi hm; omega)).here.cell 1 _ rfl, Lib.hid hc⟩)
  have BBF := Lib.hid (show ∀ W, Chg [w.heap.size + 1] W0 W → Below w.heap.size w W from fun W hc => below_chg bb0 hc bb0.size (fun i hi => by simp at hi; omega))
  clear ka_c0 ka_c1
  go_region_held3 (fun W => W.cell? ⟨w.heap.size, 0, none⟩ = some (.bool a.1) ∧ W.cell? ⟨w.heap.size, 1, none⟩ = some (.slice Aa a.2.length ca) ∧ Hid (Chg [w.heap.size + 1] W0 W))
    ((refine KL.out _ ?_; (first | exact HC2.out | exact HC1.out | exact HCr.out | exact HC0.out | exact HC2.out.drew1 | exact HC1.out.drew1 | exact HCr.out.drew1 | exact HC0.out.drew1 | exact HC2.out.trans (Chg.of_below (below_al (Below.refl _ _) _)) | exact HC1.out.trans (Chg.of_below (below_al (Below.refl _ _) _)) | exact HCr.out.trans (Chg.of_below (below_al (Below.refl _ _) _)) | exact HC0.out.trans (Chg.of_below (below_al (Below.refl _ _) _)) | exact (Chg.setCell HC2.out (by simp) _) | exact (Chg.setCell (Chg.setCell HC2.out (by simp) _) (by simp) _) | exact (Chg.setCell (Chg.setCell (Chg.setCell HC2.out (by simp) _) (by simp) _) (by simp) _) | fail)))
    (first
      | (go_at_call 118; (have hBB := (‹_ ∧ _ ∧ Hid (Chg [w.heap.size + 1] W0 _)›).2.2); (with_reducible refine ((specIntOf_any 1 _ (by decide) (by decide)).mono fun _ _ h => NewS.newV h).mono ?_); rintro e w1 ⟨ui, Si, rfl, oi, li, b1⟩; have HC1 := Lib.hid (hBB.out.trans (Chg.of_below b1)); (have ko_1 := At.below (by first | exact ko | exact At.below ko (below_al (Below.refl _ _) _) | exact At.below (At.below ko (below_al (Below.refl _ _) _)) (below_al (Below.refl _ _) _) | exact At.move ko (fun _ _ => rfl) (Nat.le_refl _)) b1); obtain ⟨Ai, ci, rfl⟩ := ownS_form oi.here; have HBZ1 := Lib.hid hBB.out.size; clear hBB)
      | (go_at_call 117; (have hBB := (‹_ ∧ _ ∧ Hid (Chg [w.heap.size + 1] W0 _)›).2.2); (with_reducible refine ((specRatMake_any _ _ a (ofZ 1) _ hza one_szS (OSa.out _ (BBF.out _ hBB.out)) (At.here (by first | exact oi | exact At.below oi (below_al (Below.refl _ _) _) | exact At.below (At.below oi (below_al (Below.refl _ _) _)) (below_al (Below.refl _ _) _) | exact At.move oi (fun _ _ => rfl) (Nat.le_refl _)))).mono fun _ _ h => postQb_eq EQ.out h).mono ?_); rintro e w2 ⟨uf, Sf, rfl, of, lf, b2⟩; have HC2 := Lib.hid (hBB.out.trans (Chg.of_below b2)); (have ko_2 := At.below (by first | exact ko_1 | exact At.below ko_1 (below_al (Below.refl _ _) _) | exact At.below (At.below ko_1 (below_al (Below.refl _ _) _)) (below_al (Below.refl _ _) _) | exact At.move ko_1 (fun _ _ => rfl) (Nat.le_refl _)) b2); (have oi_2 := At.below (by first | exact oi | exact At.below oi (below_al (Below.refl _ _) _) | exact At.below (At.below oi (below_al (Below.refl _ _) _)) (below_al (Below.refl _ _) _) | exact At.move oi (fun _ _ => rfl) (Nat.le_refl _)) b2); obtain ⟨Af, cf, Bf, df, rfl⟩ := ownQ_form of.here; have cz0 := ko_2.here.cell 0 _ rfl; have fz0 := Lib.frozen_of_heap ko_2.here 0; have cz1 := ko_2.here.cell 1 _ rfl; have fz1 := Lib.frozen_of_heap ko_2.here 1; have cz2 := ko_2.here.cell 2 _ rfl; have fz2 := Lib.frozen_of_heap ko_2.here 2; have HBZ2 := Lib.hid hBB.out.size; clear hBB))
  have bb2 := BBF.out _ HC2.out
  replace ka := ka.chg HC2.out (fun i hi hm => by simp at hi hm; omega)
  replace ko := ko_2
  have oi := oi_2
  have HW := Lib.hid (newQb_at (r := w.heap.size + 1) (b := Q.2) of lf (by have := HBZ2.out; omega) (by omega) bb2)
  clear of ko ka oi
  go_wp2
  refine bodyPost_ret (v := .tuple #[.agg #[.bool _, .slice Af _ cf, .slice Bf _ df], .bool _]) (by simp [results, Tryz.results112, go_sem, cz0, cz1, cz2]; exact ⟨⟨rfl, rfl, rfl⟩, rfl⟩) rfl ?_
  exact HW.out
end Go.Proofs.YthfkdofnoomhaaaGreatDoor
