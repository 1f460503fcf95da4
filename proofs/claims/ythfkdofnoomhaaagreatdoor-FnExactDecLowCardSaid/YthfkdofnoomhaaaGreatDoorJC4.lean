/-
  Plain facts of chapter 7: rounded fractions.
  Comparing: a number with itself, and two numbers turned round.
  Plain facts behind the laws of fractions: fractions of few limbs, reckoned as rational numbers.
  Decimal numbers as fractions: DecRat, RatDec, DecDiv.
  What NatOk, NatOf, NatCmp and NatInt of package impl return.
  What the methods of impl.nat do to a number of the call's own that is under construction.
  What addAt, addTimes, takeAt, take and trim of impl.nat do to a number of the call's own.
  What addTimes and take of impl.nat do to a number of the call's own.
  What NatAdd, NatSub and NatMul of package impl return.
  A limb of a nat, or 0 beyond its ends.
  Contracts of library functions, laid over this program: each is one application of a theorem of the library.
  What spec.IntText and impl.IntText return: the decimal numeral.
-/
import Derived.Lib.Builder
import Derived.Lib.SliceRun
import Derived.Deep.LoopGhost
import Derived.Shelf.Bits.Mul64
import Derived.Shelf.Small.Bits
import Derived.Shelf.Small.Wraps
import Derived.Shelf.Strconv.Itoa3
import Derived.Shelf.Strings.BuilderK
import Derived.Shelf.Strings.Repeat
import Derived.Shelf.Strings.Search2
import Derived.Shelf.Strings.Trim
import Derived.Test.YthfkdofnoomhaaaGreatDoorProg
import Derived.Deep.RegionWith
import Derived.Lib.ItoaNum
import Derived.IntWalk
import Derived.Test.YthfkdofnoomhaaaGreatDoorJC3
namespace Go.Proofs.YthfkdofnoomhaaaGreatDoor
open Go.RowKit

/-- is the size rounded up: by the sign, the whole part, what is left over, the denominator and the mode -/
def awayB (neg : Bool) (Q R D : Nat) (m : Int) : Bool :=
  if m = 0 then false else if m = 1 then true else if m = 2 then neg else if m = 3 then !neg else if m = 4 then decide (D < 2 * R) else if m = 5 then decide (D ≤ 2 * R)
  else decide (D < 2 * R) || (decide (2 * R = D) && decide (Q % 2 = 1))
def roundN (neg : Bool) (A D : Nat) (m : Int) : Nat := A / D + if A % D ≠ 0 ∧ awayB neg (A / D) (A % D) D m = true then 1 else 0
/-- a right fraction, rounded -/
def roundS (r : QI) (m : Int) : SI := mkS r.1.1 (limbs (roundN r.1.1 (topN r) (denQ r) m))
/-- what RatRound answers -/
def roundR (r : QI) (m : Int) : SI × Bool := if okQ r = true ∧ modeB m = true then (roundS r m, true) else (zeroS, false)
def wholeB (r : QI) : Bool := okQ r && decide (denQ r = 1)
def halfB (r : QI) : Bool := okQ r && decide (denQ r = 2)
/-- what RatRest answers: the fraction of the rounded number, the remainder -/
def restB (r : QI) (m : Int) : Bool := (roundR r m).2 && (makeQ (roundR r m).1 (ofZ 1)).2 && (subQ r (makeQ (roundR r m).1 (ofZ 1)).1).2
def restS (r : QI) (m : Int) : SI := if restB r m = true then (roundR r m).1 else zeroS
def restQ (r : QI) (m : Int) : QI := if restB r m = true then (subQ r (makeQ (roundR r m).1 (ofZ 1)).1).1 else zeroQ
/-- what RoundTo answers -/
def stepB (x : SI) (n m : Int) : Bool := okS x && decide (x.2.length ≤ 18) && decide (1 ≤ n ∧ n ≤ 1000000) && modeB m
def stepS (x : SI) (n m : Int) : SI := if stepB x n m = true then mulS (roundS (makeQ x (ofZ n)).1 m) (ofZ n) else zeroS
theorem roundN_le (neg : Bool) (A D : Nat) (m : Int) : roundN neg A D m ≤ A / D + 1 := by unfold roundN; split <;> omega
theorem roundN_lt {r : QI} (h : Parts r) (m : Int) : (roundN r.1.1 (topN r) (denQ r) m : Int) ≤ bp 18 := by
  have h1 := roundN_le r.1.1 (topN r) (denQ r) m
  have h2 : topN r / denQ r ≤ topN r := Nat.div_le_self ..
  have h3 := h.nlt
  omega
theorem bp_step (k : Nat) : bp k < bp (k + 1) := by
  have p := bp_pos k
  have e : bp (k + 1) = 1000000000 * bp k := rfl
  omega
theorem round_len {r : QI} (h : Parts r) (m : Int) : (limbs (roundN r.1.1 (topN r) (denQ r) m)).length ≤ 19 := limbs_length_le _ 19 (by have := roundN_lt h m; have h2 : bp 18 < bp 19 := bp_step 18; omega)
theorem roundS_ok (r : QI) (m : Int) : okS (roundS r m) = true := by unfold roundS; rw [mkS_limbs]; exact ofZ_ok _
theorem roundS_len (r : QI) (m : Int) : (roundS r m).2.length ≤ 50 := by unfold roundS; rw [mkS_limbs]; exact ofZ_len _
theorem roundR_sz (r : QI) (m : Int) : szS (roundR r m).1 ≤ 1048576 := by
  unfold roundR
  split
  · have := roundS_len r m; unfold szS szI; simp only; omega
  · decide
/-- twice the rest, against the denominator -/
theorem twice_cmp (R D : Nat) : (0 < cmpI ((R : Int) + R + 0) D ↔ D < 2 * R) ∧ (0 ≤ cmpI ((R : Int) + R + 0) D ↔ D ≤ 2 * R) ∧ (cmpI ((R : Int) + R + 0) D = 0 ↔ 2 * R = D) := by
  unfold cmpI
  split
  · omega
  · split <;> omega
theorem lastD_any {l : List Int} (h : l ≠ []) (a b : Int) : l.getLastD a = l.getLastD b := by
  cases l with
  | nil => exact absurd rfl h
  | cons x r => rfl
theorem last_tail {x : Int} {r : List Int} (h : (x :: r).getLastD 1 ≠ 0) : r.getLastD 1 ≠ 0 := by
  by_cases hr : r = []
  · subst hr; decide
  · rw [List.getLastD_cons, lastD_any hr x 1] at h; exact h
theorem last_head {x : Int} (h : [x].getLastD 1 ≠ 0) : x ≠ 0 := h
theorem last_cons {s : Int} {r : List Int} (h : r.getLastD 1 ≠ 0) (h0 : r = [] → s ≠ 0) : (s :: r).getLastD 1 ≠ 0 := by
  by_cases hr : r = []
  · subst hr; exact h0 rfl
  · rw [List.getLastD_cons, lastD_any hr s 1]; exact h
theorem addL_nil {a b : List Int} {c : Int} (h : addL a b c = []) : a = [] ∧ b = [] ∧ ¬ 0 < c := by
  cases a with
  | nil =>
    cases b with
    | nil =>
      refine ⟨rfl, rfl, fun hc => ?_⟩
      simp only [addL, if_pos hc] at h
      cases h
    | cons y r => simp only [addL] at h; cases h
  | cons x r =>
    cases b with
    | nil => simp only [addL] at h; cases h
    | cons y q => simp only [addL] at h; cases h
/-- a sum of trimmed limbs is trimmed -/
theorem addL_last (a b : List Int) (c : Int) (ha : DigN a) (hb : DigN b) (h0 : 0 ≤ c) (h1 : c ≤ 1) (la : a.getLastD 1 ≠ 0) (lb : b.getLastD 1 ≠ 0) : (addL a b c).getLastD 1 ≠ 0 := by
  induction a, b, c using addL.induct with
  | case1 c hc => simp only [addL, if_pos hc]; show c ≠ 0; omega
  | case2 c hc => simp only [addL, if_neg hc]; decide
  | case3 c x a ih =>
    have hx := ha.head
    simp only [addL]
    refine last_cons (ih ha.tail hb (by omega) (by omega) (last_tail la) lb) fun e => ?_
    obtain ⟨rfl, _, hc⟩ := addL_nil e
    have := last_head la
    omega
  | case4 c y b ih =>
    have hy := hb.head
    simp only [addL]
    refine last_cons (ih ha hb.tail (by omega) (by omega) la (last_tail lb)) fun e => ?_
    obtain ⟨_, rfl, hc⟩ := addL_nil e
    have := last_head lb
    omega
  | case5 c x a y b ih =>
    have hx := ha.head
    have hy := hb.head
    simp only [addL]
    refine last_cons (ih ha.tail hb.tail (by omega) (by omega) (last_tail la) (last_tail lb)) fun e => ?_
    obtain ⟨rfl, rfl, hc⟩ := addL_nil e
    have := last_head la
    omega
end Go.Proofs.YthfkdofnoomhaaaGreatDoor

namespace Go.Proofs.YthfkdofnoomhaaaGreatDoor
open Go.RowKit

theorem cmpI_self (X : Int) : cmpI X X = 0 := by unfold cmpI; rw [if_neg (by omega), if_neg (by omega)]
theorem cmpI_turn (X Y : Int) : cmpI X Y = -cmpI Y X := by unfold cmpI; split <;> split <;> (try split) <;> (try split) <;> omega
end Go.Proofs.YthfkdofnoomhaaaGreatDoor

namespace Go.Proofs.YthfkdofnoomhaaaGreatDoor
open Go.RowKit

/-- the rational number that a fraction stands for -/
def ratV (q : QI) : Rat := (numQ q : Rat) / ((denQ q : Int) : Rat)
/-- a right fraction whose parts are short -/
structure Bd (q : QI) (m : Nat) : Prop where
  ok : okQ q = true
  num : ((numQ q).natAbs : Int) < bp m
  den : (denQ q : Int) < bp m
theorem Bd.pos {q : QI} {m : Nat} (h : Bd q m) : (0 : Int) < (denQ q : Int) := by have := denQ_pos h.ok; omega
theorem Bd.mono {q : QI} {m n : Nat} (h : Bd q m) (hm : m ≤ n) : Bd q n := ⟨h.ok, Int.lt_of_lt_of_le h.num (bp_mono hm), Int.lt_of_lt_of_le h.den (bp_mono hm)⟩
theorem rat_ne {d : Int} (h : 0 < d) : (d : Rat) ≠ 0 := by
  have : d ≠ 0 := by omega
  exact_mod_cast this
theorem ratV_of {q : QI} {N D : Int} (hq : okQ q = true) (hD : 0 < D) (h : numQ q * D = N * denQ q) : ratV q = (N : Rat) / (D : Rat) := by
  have h1 : (0 : Int) < (denQ q : Int) := by have := denQ_pos hq; omega
  have n1 := rat_ne h1
  have n2 := rat_ne hD
  have h' : (numQ q : Rat) * (D : Rat) = (N : Rat) * ((denQ q : Int) : Rat) := by exact_mod_cast h
  unfold ratV
  grind
theorem low_is (n : Bool) (a b : Nat) (hb : b ≠ 0) (ha : (a : Int) < bp 18) (hb2 : (b : Int) < bp 18) :
    (lowQ n a b).2 = true ∧ numQ (lowQ n a b).1 * b = (if n = true then -(a : Int) else a) * denQ (lowQ n a b).1 ∧ (numQ (lowQ n a b).1).natAbs ≤ a ∧ denQ (lowQ n a b).1 ≤ b := by
  have hg : 0 < Nat.gcd a b := Nat.gcd_pos_of_pos_right _ (by omega)
  obtain ⟨a', ea⟩ := Nat.gcd_dvd_left a b
  obtain ⟨b', eb⟩ := Nat.gcd_dvd_right a b
  have qa : a / Nat.gcd a b = a' := by rw [Nat.div_eq_of_eq_mul_right hg ea]
  have qb : b / Nat.gcd a b = b' := by rw [Nat.div_eq_of_eq_mul_right hg eb]
  have la : a' ≤ a := by rw [← qa]; exact Nat.div_le_self ..
  have lb : b' ≤ b := by rw [← qb]; exact Nat.div_le_self ..
  have l1 : (limbs a').length ≤ 18 := limbs_length_le _ 18 (by omega)
  have l2 : (limbs b').length ≤ 18 := limbs_length_le _ 18 (by omega)
  have e : lowQ n a b = ((mkS n (limbs a'), limbs b'), true) := by
    unfold lowQ
    rw [qa, qb, if_pos ⟨hb, l1, l2⟩]
  have ev : numQ ((mkS n (limbs a'), limbs b') : QI) = if n = true then -(a' : Int) else a' := by
    show valS (mkS n (limbs a')) = _
    rw [mkS_limbs, ofZ_val]
    rw [show (if n = true then -(a' : Int) else a').natAbs = a' by split <;> omega]
    omega
  have ed : denQ ((mkS n (limbs a'), limbs b') : QI) = b' := by
    show (nval (limbs b')).toNat = b'
    rw [limbs_val, Int.toNat_natCast]
  rw [e]
  refine ⟨rfl, ?_, ?_, ?_⟩
  · rw [ev, ed]
    have key : (a' : Int) * b = a * b' := by
      have h1 : a' * b = a * b' := by
        have e1 : a * b' = (Nat.gcd a b * a') * b' := by rw [← ea]
        have e2 : a' * b = a' * (Nat.gcd a b * b') := by rw [← eb]
        rw [e1, e2]
        ac_rfl
      exact_mod_cast h1
    split
    · rw [Int.neg_mul, Int.neg_mul, key]
    · exact key
  · rw [ev]; split <;> omega
  · rw [ed]; exact lb
theorem low_bd {n : Bool} {a b m : Nat} (hb : b ≠ 0) (hm : m ≤ 18) (ha : (a : Int) < bp m) (hb2 : (b : Int) < bp m) :
    (lowQ n a b).2 = true ∧ Bd (lowQ n a b).1 m ∧ ratV (lowQ n a b).1 = ((if n = true then -(a : Int) else a : Int) : Rat) / ((b : Int) : Rat) := by
  have h18 := bp_mono hm
  obtain ⟨h1, h2, h3, h4⟩ := low_is n a b hb (by omega) (by omega)
  have ok := lowQ_ok n a b h1
  exact ⟨h1, ⟨ok, by omega, by omega⟩, ratV_of ok (by omega) h2⟩
theorem pair_eq {Q : QI × Bool} (h : Q.2 = true) : Q = (Q.1, true) := by rw [← h]
theorem abs_top {q : QI} (h : okQ q = true) : topN q = (numQ q).natAbs := by
  have := (parts_of h).top
  rw [this]
  split <;> omega
theorem mul_lt {a b : Nat} {i j : Nat} (ha : (a : Int) < bp i) (hb : (b : Int) < bp j) : ((a * b : Nat) : Int) < bp (i + j) := by
  rw [bp_add, Int.natCast_mul]
  have p := bp_pos i
  have q := bp_pos j
  have h1 : (a : Int) * b ≤ (bp i - 1) * b := Int.mul_le_mul_of_nonneg_right (by omega) (by omega)
  have h2 : (bp i - 1) * (b : Int) ≤ (bp i - 1) * (bp j - 1) := Int.mul_le_mul_of_nonneg_left (by omega) (by omega)
  have h3 : (bp i - 1) * (bp j - 1) = bp i * bp j - bp i - bp j + 1 := by grind
  omega
theorem bp_next (m : Nat) : bp m + bp m ≤ bp (m + 1) := by
  have e : bp (m + 1) = 1000000000 * bp m := rfl
  have p := bp_pos m
  omega
theorem add_bd {r s : QI} {i k : Nat} (hr : Bd r i) (hs : Bd s k) (h : i + k + 1 ≤ 18) : (addQ r s).2 = true ∧ Bd (addQ r s).1 (i + k + 1) ∧ ratV (addQ r s).1 = ratV r + ratV s := by
  have e : addQ r s = lowQ (decide (numQ r * denQ s + numQ s * denQ r < 0)) (numQ r * denQ s + numQ s * denQ r).natAbs (denQ r * denQ s) := by unfold addQ; rw [if_pos ⟨hr.ok, hs.ok⟩]
  have p1 := hr.pos
  have p2 := hs.pos
  have b1 := mul_lt hr.num hs.den
  have b2 := mul_lt hs.num hr.den
  rw [Nat.add_comm k i] at b2
  have b3 := mul_lt hr.den hs.den
  have n1 := bp_next (i + k)
  have p0 := bp_pos (i + k)
  have ba : ((numQ r * denQ s + numQ s * denQ r).natAbs : Int) < bp (i + k + 1) := by
    have h1 : (numQ r * (denQ s : Int)).natAbs = (numQ r).natAbs * denQ s := by rw [Int.natAbs_mul, Int.natAbs_natCast]
    have h2 : (numQ s * (denQ r : Int)).natAbs = (numQ s).natAbs * denQ r := by rw [Int.natAbs_mul, Int.natAbs_natCast]
    omega
  have hd : denQ r * denQ s ≠ 0 := Nat.mul_ne_zero (by omega) (by omega)
  obtain ⟨h1, h2, h3⟩ := low_bd (n := decide (numQ r * denQ s + numQ s * denQ r < 0)) hd h ba (by omega)
  rw [e]
  refine ⟨h1, h2, h3.trans ?_⟩
  have hz : (if decide (numQ r * (denQ s : Int) + numQ s * (denQ r : Int) < 0) = true then -((numQ r * (denQ s : Int) + numQ s * (denQ r : Int)).natAbs : Int) else ((numQ r * (denQ s : Int) + numQ s * (denQ r : Int)).natAbs : Int)) = numQ r * (denQ s : Int) + numQ s * (denQ r : Int) := by
    generalize numQ r * (denQ s : Int) + numQ s * (denQ r : Int) = z
    by_cases hz : z < 0
    · rw [decide_eq_true hz, if_pos rfl]; omega
    · rw [decide_eq_false hz, if_neg (by decide)]; omega
  rw [hz]
  have n1 := rat_ne p1
  have n2 := rat_ne p2
  unfold ratV
  rw [Int.natCast_mul]
  simp only [Rat.intCast_add, Rat.intCast_mul]
  grind
theorem sign_mul (x y : Bool) (X Y : Int) : (if (x != y) = true then -(X * Y) else X * Y) = (if x = true then -X else X) * (if y = true then -Y else Y) := by
  cases x <;> cases y <;> simp [Int.neg_mul, Int.mul_neg]
theorem mul_bd {r s : QI} {i k : Nat} (hr : Bd r i) (hs : Bd s k) (h : i + k ≤ 18) : (mulQ r s).2 = true ∧ Bd (mulQ r s).1 (i + k) ∧ ratV (mulQ r s).1 = ratV r * ratV s := by
  have e : mulQ r s = lowQ (r.1.1 != s.1.1) (topN r * topN s) (denQ r * denQ s) := by unfold mulQ topN; rw [if_pos ⟨hr.ok, hs.ok⟩]
  have p1 := hr.pos
  have p2 := hs.pos
  have t1 := abs_top hr.ok
  have t2 := abs_top hs.ok
  have b1 := mul_lt hr.num hs.num
  rw [← t1, ← t2] at b1
  have hd : denQ r * denQ s ≠ 0 := Nat.mul_ne_zero (by omega) (by omega)
  obtain ⟨h1, h2, h3⟩ := low_bd (n := r.1.1 != s.1.1) hd h b1 (mul_lt hr.den hs.den)
  rw [e]
  refine ⟨h1, h2, h3.trans ?_⟩
  have n1 := rat_ne p1
  have n2 := rat_ne p2
  rw [Int.natCast_mul, sign_mul, ← (parts_of hr.ok).top, ← (parts_of hs.ok).top, Int.natCast_mul]
  unfold ratV
  simp only [Rat.intCast_mul]
  grind
theorem div_bd {r s : QI} {i k : Nat} (hr : Bd r i) (hs : Bd s k) (h : i + k ≤ 18) (h0 : numQ s ≠ 0) : (divQ r s).2 = true ∧ Bd (divQ r s).1 (i + k) ∧ ratV (divQ r s).1 * ratV s = ratV r := by
  have e : divQ r s = lowQ (r.1.1 != s.1.1) (topN r * denQ s) (denQ r * topN s) := by unfold divQ topN; rw [if_pos ⟨hr.ok, hs.ok⟩]
  have p1 := hr.pos
  have p2 := hs.pos
  have t1 := abs_top hr.ok
  have t2 := abs_top hs.ok
  have b1 := mul_lt hr.num hs.den
  rw [← t1] at b1
  have b2 := mul_lt hr.den hs.num
  rw [← t2] at b2
  have hd : denQ r * topN s ≠ 0 := Nat.mul_ne_zero (by omega) (by omega)
  obtain ⟨h1, h2, h3⟩ := low_bd (n := r.1.1 != s.1.1) hd h b1 b2
  rw [e]
  refine ⟨h1, h2, ?_⟩
  have n1 := rat_ne p1
  have n2 := rat_ne p2
  have n3 := rat_ne (show (0 : Int) < (topN s : Int) by omega)
  have q1 := (parts_of hr.ok).top
  have q2 := (parts_of hs.ok).top
  rw [h3, Int.natCast_mul, Int.natCast_mul]
  unfold ratV
  rw [q1, q2]
  generalize r.1.1 = x
  generalize s.1.1 = y
  cases x <;> cases y <;> simp only [bne_self_eq_false, Bool.false_bne, Bool.true_bne, Bool.not_false, if_true, if_false, Bool.false_eq_true, Rat.intCast_mul, Rat.intCast_neg] <;> grind
theorem negS_mag {x : SI} (h : okS x = true) : (negS x).2 = x.2 := by
  have hp := okS_parts h
  have hl := (natOk_parts hp.1).2.1
  have ha := valS_abs x hp.1
  have hx := natOk_limbs hp.1
  unfold negS
  rw [if_pos h]
  have e : (-valS x).natAbs = (nval x.2).toNat := by rw [Int.natAbs_neg]; omega
  unfold ofZ
  rw [e, ← hx, if_pos hl]
theorem neg_bd {s : QI} {k : Nat} (hs : Bd s k) : (negQ s).2 = true ∧ Bd (negQ s).1 k ∧ ratV (negQ s).1 = - ratV s := by
  have hp := okQ_parts hs.ok
  have hm := negS_mag hp.1
  have e : negQ s = ((negS s.1, s.2), true) := by unfold negQ; rw [if_pos hs.ok]
  have ev : numQ ((negS s.1, s.2) : QI) = - numQ s := by
    have hl : (limbs (-valS s.1).natAbs).length ≤ 50 := by
      have := (natOk_parts (okS_parts hp.1).1).2.1
      have hx := natOk_limbs (okS_parts hp.1).1
      have ha := valS_abs s.1 (okS_parts hp.1).1
      rw [Int.natAbs_neg, show (valS s.1).natAbs = (nval s.1.2).toNat by omega, ← hx]
      exact this
    show valS (negS s.1) = - valS s.1
    unfold negS
    rw [if_pos hp.1, ofZ_val hl]
  have hok : okQ ((negS s.1, s.2) : QI) = true := by
    have hn : okS (negS s.1) = true := by unfold negS; rw [if_pos hp.1]; exact ofZ_ok _
    unfold okQ
    simp only
    rw [hn, hp.2.1, hm]
    simp only [Bool.true_and, decide_eq_true_eq]
    exact ⟨hp.2.2.1, hp.2.2.2.1, hp.2.2.2.2.1, hp.2.2.2.2.2⟩
  rw [e]
  refine ⟨rfl, ⟨hok, by rw [ev, Int.natAbs_neg]; exact hs.num, hs.den⟩, ?_⟩
  unfold ratV
  rw [ev, show denQ ((negS s.1, s.2) : QI) = denQ s from rfl]
  simp only [Rat.intCast_neg]
  grind
theorem sub_bd {r s : QI} {i k : Nat} (hr : Bd r i) (hs : Bd s k) (h : i + k + 1 ≤ 18) : (subQ r s).2 = true ∧ Bd (subQ r s).1 (i + k + 1) ∧ ratV (subQ r s).1 = ratV r - ratV s := by
  obtain ⟨n1, n2, n3⟩ := neg_bd hs
  have e : subQ r s = addQ r (negQ s).1 := by unfold subQ; rw [if_pos n1]
  obtain ⟨a1, a2, a3⟩ := add_bd hr n2 h
  rw [e]
  exact ⟨a1, a2, by rw [a3, n3]; grind⟩
theorem cross_of {r s : QI} {i k : Nat} (hr : Bd r i) (hs : Bd s k) (h : ratV r = ratV s) : numQ r * denQ s = numQ s * denQ r := by
  have n1 := rat_ne hr.pos
  have n2 := rat_ne hs.pos
  unfold ratV at h
  have h' : (numQ r : Rat) * ((denQ s : Int) : Rat) = (numQ s : Rat) * ((denQ r : Int) : Rat) := by grind
  exact_mod_cast h'
theorem cmp_same {r s : QI} {i k : Nat} (hr : Bd r i) (hs : Bd s k) (h : ratV r = ratV s) : cmpQ r s = 0 := by
  unfold cmpQ
  rw [if_pos ⟨hr.ok, hs.ok⟩, cross_of hr hs h, cmpI_self]
theorem cmpQ_turn {r s : QI} {i k : Nat} (hr : Bd r i) (hs : Bd s k) : cmpQ r s = -cmpQ s r := by
  unfold cmpQ
  rw [if_pos ⟨hr.ok, hs.ok⟩, if_pos ⟨hs.ok, hr.ok⟩, cmpI_turn]
theorem oneQ_parts : numQ oneQ = 0 ∧ denQ oneQ = 1 := ⟨rfl, rfl⟩
theorem signQ_of {r : QI} {i : Nat} (hr : Bd r i) : cmpQ r oneQ = cmpI (numQ r) 0 := by
  unfold cmpQ
  rw [if_pos ⟨hr.ok, oneQ_ok⟩, oneQ_parts.1, oneQ_parts.2, Int.zero_mul]
  simp
theorem cmpI_facts (X Y : Int) : (cmpI X Y = 0 ↔ X = Y) ∧ (cmpI X Y ≤ 0 ↔ X ≤ Y) ∧ (0 ≤ cmpI X Y ↔ Y ≤ X) := by
  unfold cmpI
  split
  · omega
  · split <;> omega
theorem order_of {r s x : QI} {i k m : Nat} (hr : Bd r i) (hs : Bd s k) (hx : Bd x m) (h : ratV x = ratV s - ratV r) : (cmpQ r s ≤ 0) ↔ (0 ≤ cmpQ x oneQ) := by
  rw [signQ_of hx, (cmpI_facts _ _).2.2]
  have e : cmpQ r s = cmpI (numQ r * denQ s) (numQ s * denQ r) := by unfold cmpQ; rw [if_pos ⟨hr.ok, hs.ok⟩]
  rw [e, (cmpI_facts _ _).2.1]
  have p1 := hr.pos
  have p2 := hs.pos
  have p3 := hx.pos
  have n1 := rat_ne p1
  have n2 := rat_ne p2
  have n3 := rat_ne p3
  have key : numQ x * ((denQ s : Int) * (denQ r : Int)) = (numQ s * (denQ r : Int) - numQ r * (denQ s : Int)) * (denQ x : Int) := by
    unfold ratV at h
    have h' : (numQ x : Rat) * (((denQ s : Int) : Rat) * ((denQ r : Int) : Rat)) = ((numQ s : Rat) * ((denQ r : Int) : Rat) - (numQ r : Rat) * ((denQ s : Int) : Rat)) * ((denQ x : Int) : Rat) := by grind
    exact_mod_cast h'
  have pd : 0 < (denQ s : Int) * (denQ r : Int) := Int.mul_pos p2 p1
  generalize numQ s * (denQ r : Int) = B at *
  generalize numQ r * (denQ s : Int) = A at *
  constructor
  · intro hh
    have h1 : 0 ≤ (B - A) * (denQ x : Int) := Int.mul_nonneg (by omega) (by omega)
    rw [← key] at h1
    exact Int.nonneg_of_mul_nonneg_left h1 pd
  · intro hh
    have h1 : 0 ≤ numQ x * ((denQ s : Int) * (denQ r : Int)) := Int.mul_nonneg hh (by omega)
    rw [key] at h1
    have := Int.nonneg_of_mul_nonneg_left h1 p3
    omega
theorem bd_len {q : QI} {m : Nat} (h : Bd q m) : q.1.2.length ≤ m ∧ q.2.length ≤ m := by
  have p := parts_of h.ok
  have t := abs_top h.ok
  have h1 := h.num
  constructor
  · rw [p.n]; exact limbs_length_le _ m (by omega)
  · rw [p.d]; exact limbs_length_le _ m h.den
theorem bd_sz {q : QI} {m : Nat} (h : Bd q m) (hm : m ≤ 18) : szQ q ≤ 1048576 := by
  have := bd_len h
  unfold szQ szS szI
  omega
end Go.Proofs.YthfkdofnoomhaaaGreatDoor

namespace Go.Proofs.YthfkdofnoomhaaaGreatDoor
open Go.RowKit

def ratD (d : DI) : QI := if okD d = true then (makeQ d.1 (tenS d.2)).1 else zeroQ
/-- the size that a fraction times ten to the power k is rounded to, with its sign -/
def scaledN (r : QI) (k m : Int) : Nat := roundN r.1.1 (topN r * 10 ^ k.toNat) (denQ r) m
def scaledZ (r : QI) (k m : Int) : Int := if r.1.1 = true then -(scaledN r k m : Int) else scaledN r k m
/-- what RatDec and DecDiv answer -/
def ratDecD (r : QI) (k m : Int) : DI × Bool := if okQ r = true ∧ (0 ≤ k ∧ k ≤ 30) ∧ modeB m = true then decZ (scaledZ r k m) k else (zeroD, false)
def divD (d e : DI) (k m : Int) : DI × Bool := if (divQ (ratD d) (ratD e)).2 = true then ratDecD (divQ (ratD d) (ratD e)).1 k m else (zeroD, false)

theorem rat_bad {d : DI} (h : ¬ okD d = true) : ratD d = zeroQ := by unfold ratD; rw [if_neg h]
theorem ten_bd {d : DI} (h : okD d = true) : makeQ d.1 (tenS d.2) = (ratD d, true) ∧ Bd (ratD d) 6 ∧ ratV (ratD d) = (numD d : Rat) / (pt d.2 : Rat) := by
  have p := partsD h
  have hp := okS_parts p.ok
  have t := tenS_ok p.lo p.hi
  have hn := nval_ok hp.1
  have hP := pt_pos d.2
  have e : makeQ d.1 (tenS d.2) = lowQ d.1.1 (nval d.1.2).toNat (pt d.2).toNat := by
    unfold makeQ
    rw [if_pos ⟨p.ok, t.1⟩]
    have : nval (tenS d.2).2 = pt d.2 := t.2.1
    rw [this]
    show lowQ (d.1.1 != false) _ _ = _
    cases d.1.1 <;> rfl
  have hr : ratD d = (makeQ d.1 (tenS d.2)).1 := by unfold ratD; rw [if_pos h]
  have hab := valS_abs d.1 hp.1
  have hlt := num_lt p
  have h46 : bp 4 ≤ bp 6 := bp_mono (by omega)
  have h4 := pt_lt p.hi
  unfold numD at hlt
  obtain ⟨b1, b2, b3⟩ := low_bd (n := d.1.1) (a := (nval d.1.2).toNat) (b := (pt d.2).toNat) (m := 6) (by omega) (by omega) (by omega) (by omega)
  rw [hr, e]
  refine ⟨pair_eq b1, b2, b3.trans ?_⟩
  rw [Int.toNat_of_nonneg hn, Int.toNat_of_nonneg (by omega)]
  rfl
theorem ratD_sz (d : DI) : szQ (ratD d) ≤ 1048576 := by
  unfold ratD
  split
  · unfold makeQ
    split
    · exact lowQ_sz _ _ _
    · decide
  · decide
theorem ratDecD_sz (r : QI) (k m : Int) : szD (ratDecD r k m).1 ≤ 1048576 := by unfold ratDecD; split; exact decZ_sz _ _; exact zeroD_sz
theorem divD_sz (d e : DI) (k m : Int) : szD (divD d e k m).1 ≤ 1048576 := by unfold divD; split; exact ratDecD_sz _ _ _; exact zeroD_sz
/-- what is rounded, and what comes out, is short -/
theorem scaled_lt {r : QI} (h : okQ r = true) {k : Int} (h1 : k ≤ 30) : ((topN r * 10 ^ k.toNat : Nat) : Int) < bp 22 := by
  have p := parts_of h
  have a := p.nlt
  have b := pt_lt h1
  rw [← pt_nat] at b
  exact mul_lt (i := 18) (j := 4) a b
theorem scaledN_lt {r : QI} (h : okQ r = true) {k : Int} (m : Int) (h1 : k ≤ 30) : (scaledN r k m : Int) < bp 23 := by
  have a := scaled_lt h h1
  have b := roundN_le r.1.1 (topN r * 10 ^ k.toNat) (denQ r) m
  have c : topN r * 10 ^ k.toNat / denQ r ≤ topN r * 10 ^ k.toNat := Nat.div_le_self ..
  have d : bp 22 < bp 23 := bp_step 22
  unfold scaledN
  omega
/-- the number that RatDec rounds to, with a scale -/
theorem ratDec_is {r : QI} {k m : Int} (h : okQ r = true) (h0 : 0 ≤ k) (h1 : k ≤ 30) (hm : modeB m = true) : decD (mkS r.1.1 (limbs (scaledN r k m))) k = ratDecD r k m := by
  unfold ratDecD
  rw [if_pos ⟨h, ⟨h0, h1⟩, hm⟩, mkS_limbs]
  have a := scaledN_lt h m h1
  have b : bp 23 ≤ bp 50 := bp_mono (by omega)
  refine decD_ofZ _ ?_
  split <;> omega
end Go.Proofs.YthfkdofnoomhaaaGreatDoor

namespace Go.Proofs.YthfkdofnoomhaaaGreatDoor
open Go.RowKit

theorem digB_true {d : Int} (h : digB d = true) : 0 ≤ d ∧ d ≤ 999999999 := of_decide_eq_true h
theorem digB_false {d : Int} (h : digB d = false) : ¬ (0 ≤ d ∧ d ≤ 999999999) := of_decide_eq_false h

set_option maxHeartbeats 400000 in
set_option maxRecDepth 100000 in
theorem implNatOk_same (v : Value) (xs : List Int) (lo hi : Nat) (w : World) (hl : xs.length ≤ 9223372036854775807) (hr : Row w lo hi v (intsV xs)) :
    Calls Tryz.prog 141 #[v] w fun e w' => e = .returned (.bool (natOkB xs)) ∧ w = w' := by
  obtain ⟨A, c, rfl, hA⟩ := hr
  have HA := Lib.hid hA
  rw [intsV_length]
  clear hA
  by_cases h50 : xs.length ≤ 50
  · go_enter Tryz.func141, Tryz.ntmps141
    go_wp2
    go_loop [10] (fun i => ∃ k : Nat, k ≤ xs.length ∧ i = .int .i64 k ∧ Hid ((xs.take k).all digB = true)) (fun i => xs.length - (intOf i).toNat)
    case atStart => exact ⟨0, Nat.zero_le _, rfl, Lib.hid rfl⟩
    case round =>
      obtain ⟨k, hk, rfl, HD⟩ := hrel
      by_cases hlt : k < xs.length
      · obtain ⟨a, rfl, _, _, hca⟩ := HA.out k _ (intsV_at xs k hlt)
        by_cases hd : digB xs[k] = true
        · have HS := Lib.hid (all_succ xs k hlt HD.out hd)
          have hd2 := digB_true hd
          have hd3 := hd2.1
          have hd4 := hd2.2
          clear hd2 hd
          go_wp2
          go_round
          case rel => exact ⟨k + 1, by omega, by go_num, HS⟩
          case measure => simp [intOf]; omega
        · have hd' : digB xs[k] = false := by simpa using hd
          have HN := Lib.hid (not_all xs k hlt hd')
          have hd2 := digB_false hd'
          by_cases hneg : xs[k] < 0
          · go_wp2
            go_ret
            exact ⟨ret_bool HN.out.symm, rfl⟩
          · have hbig : 1000000000 ≤ xs[k] := by omega
            go_wp2
            go_ret
            exact ⟨ret_bool HN.out.symm, rfl⟩
      · have HF := Lib.hid (all_upto xs k HD.out hlt)
        by_cases h0 : xs.length = 0
        · have hz : ((xs.length : Int) == 0) = true := by simp [h0]
          obtain rfl : xs = [] := List.eq_nil_of_length_eq_zero h0
          clear h0
          go_wp2
          go_ret
          exact ⟨rfl, rfl⟩
        · have hz : ((xs.length : Int) == 0) = false := by rw [beq_eq_false_iff_ne]; omega
          have hlt2 : xs.length - 1 < xs.length := by omega
          obtain ⟨a, rfl, _, _, hca⟩ := HA.out (xs.length - 1) _ (intsV_at xs (xs.length - 1) hlt2)
          have HL := Lib.hid (ok_last xs HF.out h50 hlt2)
          clear h0
          go_wp2
          go_ret
          exact ⟨ret_bool HL.out, rfl⟩
  · have HN := Lib.hid (ok_long xs h50)
    go_enter Tryz.func141, Tryz.ntmps141
    go_wp2
    go_ret
    exact ⟨ret_bool HN.out.symm, rfl⟩
theorem implNatOk_any (v : Value) (xs : List Int) (lo hi : Nat) (w : World) (hl : xs.length ≤ 1048576) (_ : hi ≤ w.heap.size) (hr : Row w lo hi v (intsV xs)) :
    Calls Tryz.prog 141 #[v] w fun e w' => e = .returned (.bool (natOkB xs)) ∧ Below w.heap.size w w' := by
  refine (implNatOk_same v xs lo hi w (by omega) hr).mono ?_
  rintro e w' ⟨rfl, rfl⟩
  exact ⟨rfl, Below.refl _ _⟩

set_option maxHeartbeats 400000 in
set_option maxRecDepth 100000 in
theorem implNatOf_any (n : Int) (w : World) (h1 : n ≤ 9223372036854775807) :
    Calls Tryz.prog 145 #[.int .i64 n] w (NewInts (limbs n.toNat) w) := by
  obtain ⟨i0, hi, hz0, hz1, hz2⟩ := info_parts intInfo
  go_enter Tryz.func145, Tryz.ntmps145
  go_wp2
  go_loopw [0, 3] (fun a v wr => ∃ (m : Int) (out : List Int) (f : Nat), m ≤ 9223372036854775807 ∧ out.length + f ≤ 3 ∧ m < 1000000000 ^ f ∧ a = .int .i64 m ∧ Hid (out ++ limbs m.toNat = limbs n.toNat) ∧ wr.ownsRow w.heap.size 3 1 v out.length (intsV out) ∧ Below w.heap.size w wr) (fun a _ _ => (intOf a).toNat)
  case atStart => exact ⟨n, [], 3, h1, by simp, by omega, rfl, Lib.hid rfl, World.ownsRow_nil _ _ _ _, Below.refl _ _⟩
  case round =>
    obtain ⟨m, out, f, hm, hol, hmf, rfl, HE, hown, hb1⟩ := hrel
    by_cases h0 : 0 < m
    · obtain ⟨g, rfl⟩ : ∃ g, f = g + 1 := by
        cases f with
        | zero => simp at hmf; omega
        | succ g => exact ⟨g, rfl⟩
      have hmg : m / 1000000000 < 1000000000 ^ g := by
        rw [Int.pow_succ] at hmf
        exact Int.ediv_lt_of_lt_mul (by omega) hmf
      have HS : Hid (out ++ [m % 1000000000] ++ limbs (m / 1000000000).toNat = limbs n.toNat) := Lib.hid (by
        have e := HE.out
        rw [limbs_pos m.toNat (by omega)] at e
        rw [List.append_assoc, ← e, show ((m.toNat % 1000000000 : Nat) : Int) = m % 1000000000 from by omega, show m.toNat / 1000000000 = (m / 1000000000).toNat from by omega]
        rfl)
      clear hmf
      go_wp2_with (at_builtin; refine wpList_append_own _ rfl (.tmp 8) (.tmp 11) 22 rfl w.heap.size 3 i0 (.int .i64 0) 1 8 Tryz.underlying22 hi hz0 hz1 hz2 rfl (by decide) _ _ _ rfl (own_alloc hown _) ⟨wr.heap.size, 0, none⟩ 1 1 [.int .i64 (m % 1000000000)] rfl rfl (one_new _ _ _) ?c2 ?c3 ?c4 ?c5 ?_)
      case c2 => first | (intro u hu; simp at hu; subst hu; rfl) | rfl
      case c3 => unfold maxLen; omega
      case c4 => omega
      case c5 => have := hb1.size; simp; omega
      intro v1 w1 hown1 hg1 _
      have hb2 := below_push hb1 (Nat.le_refl _) hown hg1
      go_wp2
      exact ⟨⟨m / 1000000000, out ++ [m % 1000000000], g, by omega, by simp; omega, hmg, rfl, HS, by simpa [intsV] using hown1, hb2⟩, by simp [intOf]; omega⟩
    · have HF : Hid (out = limbs n.toNat) := Lib.hid (by have e := HE.out; rwa [show m.toNat = 0 from by omega, limbs_none, List.append_nil] at e)
      go_wp2
      go_ret
      exact ⟨_, rfl, by rw [← HF.out]; exact hown, hb1⟩

/-- a callee that only computes, met inside a region that draws -/
theorem quiet_at {P : Program} {f : FuncId} {args : Array Value} {W : World} {X : Nat → World} {n : Nat} {v : Value} (hX : X n = W)
    (h : Calls P f args W fun e w' => e = .returned v ∧ W = w') : Calls P f args W fun e w'' => e = .returned v ∧ ∃ m, w'' = X m :=
  h.mono fun _ _ ⟨he, hm⟩ => ⟨he, n, hm.symm.trans hX.symm⟩

set_option maxHeartbeats 400000 in
set_option maxRecDepth 100000 in
theorem isNaN_any (x : Int) (w : World) : Calls Tryz.prog 212 #[.int .i64 x] w fun e w' => e = .returned (.bool false) ∧ w = w' := by
  go_enter Tryz.func212, Tryz.ntmps212
  go_wp2
  go_ret
  exact ⟨by simp, rfl⟩
set_option maxHeartbeats 400000 in
set_option maxRecDepth 100000 in
theorem compare_any (x y : Int) (w : World) : Calls Tryz.prog 179 #[.int .i64 x, .int .i64 y] w fun e w' => e = .returned (.int .i64 (cmpI x y)) ∧ w = w' := by
  go_enter Tryz.func179, Tryz.ntmps179
  go_wp2_with (go_at_call 212; refine (isNaN_any _ _).mono ?_; rintro e w' ⟨rfl, rfl⟩)
  all_goals (go_ret; refine ⟨?_, rfl⟩; unfold cmpI; (repeat' split) <;> first | rfl | (exfalso; omega))

set_option maxHeartbeats 1000000 in
set_option maxRecDepth 100000 in
theorem compareLimbs_any (va vb : Value) (a b : List Int) (la ha lb hb : Nat) (w : World) (hal : a.length ≤ 9223372036854775807) (_hbl : b.length ≤ 9223372036854775807) (oa : DigN a ∧ a.getLastD 1 ≠ 0) (ob : DigN b ∧ b.getLastD 1 ≠ 0)
    (hra : Row w la ha va (intsV a)) (hrb : Row w lb hb vb (intsV b)) :
    Calls Tryz.prog 126 #[va, vb] w fun e w' => e = .returned (.int .i64 (cmpI (nval a) (nval b))) ∧ ∃ q, w.drewN q = w' := by
  have OA := Lib.hid oa
  have OB := Lib.hid ob
  obtain ⟨A, c, rfl, hA⟩ := hra
  obtain ⟨B, d, rfl, hB⟩ := hrb
  rw [intsV_length]
  rw [intsV_length]
  have HA := Lib.hid hA
  have HB := Lib.hid hB
  clear hA hB oa ob
  by_cases hlen : a.length = b.length
  · have HL := Lib.hid hlen
    have hbe : ((a.length : Int) != (b.length : Int)) = false := by simp [hlen]
    clear hlen
    go_enter Tryz.func126, Tryz.ntmps126
    go_wp2
    go_loopw [5] (fun i wr => ∃ k q : Nat, k ≤ a.length ∧ i = .int .i64 ((k : Int) - 1) ∧ wr = w.drewN q ∧ Hid (a.drop k = b.drop k)) (fun i _ => (intOf i + 1).toNat)
    case atStart => exact ⟨a.length, 0, Nat.le_refl _, rfl, rfl, Lib.hid (by rw [List.drop_of_length_le (Nat.le_refl _), List.drop_of_length_le (by have := HL.out; omega)])⟩
    case round =>
      obtain ⟨k, q, hk, rfl, rfl, HT⟩ := hrel
      by_cases hz : 0 < k
      · obtain ⟨m, rfl⟩ : ∃ m, k = m + 1 := ⟨k - 1, by omega⟩
        have hlt : m < a.length := by omega
        have hlt2 : m < b.length := by have := HL.out; omega
        obtain ⟨p, rfl, _, _, hca⟩ := HA.out m _ (intsV_at a m hlt)
        obtain ⟨r, rfl, _, _, hcb⟩ := HB.out m _ (intsV_at b m hlt2)
        have hm1 : ((m + 1 : Nat) : Int) - 1 = (m : Int) := by omega
        rw [hm1]
        clear hm1 hz
        by_cases he : a[m] = b[m]
        · have hne : (a[m] != b[m]) = false := by simp [he]
          have HS := Lib.hid (drop_same a b m hlt hlt2 HT.out he)
          clear he
          go_wp2
          go_quiet (fail)
          go_wp2
          go_roundw
          case rel => exact ⟨m, _, by omega, rfl, rfl, HS⟩
          case measure => simp [intOf]
        · have hne : (a[m] != b[m]) = true := by rw [bne_iff_ne]; exact he
          have HV : Hid (cmpI a[m] b[m] = cmpI (nval a) (nval b)) := Lib.hid (by
            by_cases h1 : a[m] < b[m]
            · rw [cmp_lt h1, cmp_lt (nval_lt_down a b OA.out.1 OB.out.1 HL.out m (by rw [nval_drop a m hlt, nval_drop b m hlt2, HT.out]; omega))]
            · rw [cmp_gt (show b[m] < a[m] by omega), cmp_gt (nval_lt_down b a OB.out.1 OA.out.1 HL.out.symm m (by rw [nval_drop a m hlt, nval_drop b m hlt2, HT.out]; omega))])
          clear he
          go_wp2
          go_quiet (fail)
          go_wp2
          go_quiet ((go_at_call 179; exact quiet_at rfl (compare_any _ _ _)))
          go_wp2
          go_ret
          exact ⟨ret_int HV.out, drew_three _ _ _ _⟩
      · obtain rfl : k = 0 := by omega
        go_wp2
        go_ret
        exact ⟨ret_int (cmp_eq (by have := HT.out; rw [List.drop_zero, List.drop_zero] at this; rw [this])).symm, q, rfl⟩
  · have hbe : ((a.length : Int) != (b.length : Int)) = true := by simp; omega
    have HV : Hid (cmpI (a.length : Int) (b.length : Int) = cmpI (nval a) (nval b)) := Lib.hid (by
      by_cases hs : a.length < b.length
      · rw [cmp_lt (by omega), cmp_lt (nval_short a b OA.out.1 OB.out.1 hs OB.out.2)]
      · rw [cmp_gt (by omega), cmp_gt (nval_short b a OB.out.1 OA.out.1 (by omega) OA.out.2)])
    clear hlen
    go_enter Tryz.func126, Tryz.ntmps126
    go_wp2_with (go_at_call 179; refine (compare_any _ _ _).mono ?_; rintro e w' ⟨rfl, rfl⟩)
    go_ret
    exact ⟨ret_int HV.out, 0, rfl⟩

set_option maxHeartbeats 1000000 in
set_option maxRecDepth 100000 in
theorem implNatCmp_drew (va vb : Value) (a b : List Int) (la ha lb hb : Nat) (w : World) (hal : a.length ≤ 9223372036854775807) (hbl : b.length ≤ 9223372036854775807)
    (hra : Row w la ha va (intsV a)) (hrb : Row w lb hb vb (intsV b)) :
    Calls Tryz.prog 143 #[va, vb] w fun e w' => e = .returned (.int .i64 (cmpN a b)) ∧ ∃ q, w.drewN q = w' := by
  by_cases oa : natOkB a = true
  · by_cases ob : natOkB b = true
    · have HC := Lib.hid (show cmpN a b = cmpI (nval a) (nval b) by unfold cmpN; rw [if_pos ⟨oa, ob⟩])
      have OA := Lib.hid (ok_dig oa)
      have OB := Lib.hid (ok_dig ob)
      go_enter Tryz.func143, Tryz.ntmps143
      go_wp2_with fail
      refine (implNatOk_same va a la ha _ hal hra).mono ?_
      rintro e w' ⟨rfl, rfl⟩
      rw [oa]
      go_wp2_with fail
      refine (implNatOk_same vb b lb hb _ hbl hrb).mono ?_
      rintro e w' ⟨rfl, rfl⟩
      rw [ob]
      clear oa ob
      go_wp2_with fail
      refine (compareLimbs_any va vb a b la ha lb hb _ hal hbl OA.out OB.out hra hrb).mono ?_
      rintro e w' ⟨rfl, q, rfl⟩
      go_wp2
      go_ret
      exact ⟨ret_int HC.out.symm, q, rfl⟩
    · have ob' : natOkB b = false := by simpa using ob
      have HC := Lib.hid (show cmpN a b = 0 by unfold cmpN; rw [if_neg (fun h => ob h.2)])
      clear ob
      go_enter Tryz.func143, Tryz.ntmps143
      go_wp2_with fail
      refine (implNatOk_same va a la ha _ hal hra).mono ?_
      rintro e w' ⟨rfl, rfl⟩
      rw [oa]
      go_wp2_with fail
      refine (implNatOk_same vb b lb hb _ hbl hrb).mono ?_
      rintro e w' ⟨rfl, rfl⟩
      rw [ob']
      go_wp2
      go_ret
      exact ⟨ret_int HC.out.symm, 0, rfl⟩
  · have oa' : natOkB a = false := by simpa using oa
    have HC := Lib.hid (show cmpN a b = 0 by unfold cmpN; rw [if_neg (fun h => oa h.1)])
    clear oa
    go_enter Tryz.func143, Tryz.ntmps143
    go_wp2_with fail
    refine (implNatOk_same va a la ha _ hal hra).mono ?_
    rintro e w' ⟨rfl, rfl⟩
    rw [oa']
    go_wp2
    go_ret
    exact ⟨ret_int HC.out.symm, 0, rfl⟩
theorem implNatCmp_any (va vb : Value) (a b : List Int) (la ha lb hb : Nat) (w : World) (hal : a.length ≤ 1048576) (hbl : b.length ≤ 1048576) (_ : ha ≤ w.heap.size) (_ : hb ≤ w.heap.size)
    (hra : Row w la ha va (intsV a)) (hrb : Row w lb hb vb (intsV b)) :
    Calls Tryz.prog 143 #[va, vb] w fun e w' => e = .returned (.int .i64 (cmpN a b)) ∧ Below w.heap.size w w' := by
  refine (implNatCmp_drew va vb a b la ha lb hb w (by omega) (by omega) hra hrb).mono ?_
  rintro e w' ⟨rfl, q, rfl⟩
  exact ⟨rfl, below_drewN (Below.refl _ _) q⟩

theorem max_limbs : limbs (9223372036854775807 : Int).toNat = [854775807, 223372036, 9] := by
  rw [show (9223372036854775807 : Int).toNat = 9223372036854775807 from rfl, limbs_pos _ (by decide), limbs_pos _ (by decide), limbs_pos _ (by decide), limbs, dif_pos (by decide)]
  rfl

end Go.Proofs.YthfkdofnoomhaaaGreatDoor

namespace Go.Proofs.YthfkdofnoomhaaaGreatDoor
open Go.RowKit

/-- what a nat lies in: the cells behind its limbs, and the type of the block (a nat alone, or the head of an integer) -/
structure NatK where
  rest : List Value
  ty : TypeId
  ne : ty ≠ 3
@[reducible] def natK : NatK := ⟨[], 146, by decide⟩
/-- the pointer at block b leads to a nat of the call's own whose limbs are xs -/
def NatX (K : NatK) (B b : Nat) (xs : List Int) (w : World) : Prop :=
  B ≤ b ∧ ∃ v, w.heap[b]? = some (.cells (v :: K.rest).toArray K.ty (0, 0)) ∧ w.ownsRow B 3 1 v xs.length (intsV xs) ∧ v.ownBlock ≠ some b

abbrev NatAt (B b : Nat) (xs : List Int) (w : World) : Prop := NatX natK B b xs w

theorem NatX.lt {K : NatK} {B b : Nat} {xs : List Int} {w : World} (h : NatX K B b xs w) : b < w.heap.size := by
  obtain ⟨_, v, hb, _⟩ := h
  exact (Array.getElem?_eq_some_iff.1 hb).1
theorem NatX.cell {K : NatK} {v : Value} {b : Nat} {w : World} (hb : w.heap[b]? = some (.cells (v :: K.rest).toArray K.ty (0, 0))) : w.cell? ⟨b, 0, none⟩ = some v := by
  rw [Lib.cell_of_heap hb]; simp
theorem NatX.cell1 {K : NatK} {v u : Value} {b : Nat} {w : World} (hb : w.heap[b]? = some (.cells (v :: K.rest).toArray K.ty (0, 0))) (j : Nat) (hj : K.rest[j]? = some u) : w.cell? ⟨b, j + 1, none⟩ = some u := by
  rw [Lib.cell_of_heap hb]; simpa using hj
/-- new limbs laid into it -/
theorem NatX.put {K : NatK} {B b : Nat} {v v' : Value} {ys : List Int} {w : World} (hB : B ≤ b) (hb : w.heap[b]? = some (.cells (v :: K.rest).toArray K.ty (0, 0))) (hown : w.ownsRow B 3 1 v' ys.length (intsV ys)) :
    NatX K B b ys (w.setCell ⟨b, 0, none⟩ v') := by
  have hne := Lib.ownBlock_ne hown hb K.ne
  refine ⟨hB, v', ?_, ?_, hne⟩
  · simp [World.setCell, Array.getElem?_modify, hb]
  · exact hown.kept (row := some b) ⟨rfl, rfl, rfl, by simp [World.setCell], fun k _ hk => Below.heap_setCell _ _ _ _ (fun e => hk (by simp [e]))⟩ (Or.inr hne)
theorem NatAt.put {B b : Nat} {v v' : Value} {ys : List Int} {w : World} (hB : B ≤ b) (hb : w.heap[b]? = some (.cells #[v] 146 (0, 0))) (hown : w.ownsRow B 3 1 v' ys.length (intsV ys)) :
    NatAt B b ys (w.setCell ⟨b, 0, none⟩ v') := NatX.put (K := natK) hB hb hown
theorem NatX.new {K : NatK} {B : Nat} {v : Value} {xs : List Int} {w : World} (hB : B ≤ w.heap.size) (hown : w.ownsRow B 3 1 v xs.length (intsV xs)) : NatX K B w.heap.size xs (w.alloc (.cells (v :: K.rest).toArray K.ty)) := by
  refine ⟨hB, v, heap_alloc_new w _, own_alloc hown _, fun h => ?_⟩
  have := (own_lt hown h).2
  omega
theorem NatAt.new {B : Nat} {v : Value} {xs : List Int} {w : World} (hB : B ≤ w.heap.size) (hown : w.ownsRow B 3 1 v xs.length (intsV xs)) : NatAt B w.heap.size xs (w.alloc (.cells #[v] 146)) :=
  NatX.new (K := natK) hB hown

set_option maxHeartbeats 1000000 in
set_option maxRecDepth 100000 in
theorem cloneI_any (v : Value) (xs : List Int) (lo hi : Nat) (w : World) (hl : xs.length ≤ 1048576) (hr : Row w lo hi v (intsV xs)) :
    Calls Tryz.prog 180 #[v] w (NewInts xs w) := by
  obtain ⟨i0, hi0, hz0, hz1, hz2⟩ := info_parts intInfo
  obtain ⟨A, c, rfl, hA⟩ := hr
  have q22 : ∀ (w : World) (a : Option Addr) (n c n' c' : Nat), (binOp .eql 22 (.slice a n c) (.slice none n' c')).run Tryz.prog w = .ok (.bool a.isNone) w := fun w a n c n' c' => Lib.run_eql_slice_nil w _ _ a n c n' c' Tryz.underlying22
  cases A with
  | none =>
    obtain rfl : xs = [] := by
      cases xs with
      | nil => rfl
      | cons x r =>
        obtain ⟨a, e, _⟩ := hA 0 _ rfl
        cases e
    clear hA
    go_enter Tryz.func180, Tryz.ntmps180
    go_wp2
    go_ret
    exact ⟨_, rfl, World.ownsRow_nil _ _ _ _, Below.refl _ _⟩
  | some a =>
    have HA := Lib.hid hA
    clear hA
    rw [intsV_length]
    go_enter Tryz.func180, Tryz.ntmps180
    go_wp2_with (at_builtin; refine wpList_append_own _ rfl _ _ 22 rfl w.heap.size 3 i0 (.int .i64 0) 1 8 Tryz.underlying22 hi0 hz0 hz1 hz2 rfl (by decide) _ _ _ rfl (World.ownsRow_made w #[] 0 (Nat.le_refl _) (Nat.zero_le _) rfl) a xs.length c (intsV xs) rfl ?qc1 ?qc2 ?qc3 ?qc4 ?qc5 ?qc6 ?_)
    case qc1 => simp [intsV_length]
    case qc2 =>
      intro j u hj
      obtain ⟨p, e, h1, h2, h3⟩ := HA.out j u hj
      cases e
      exact Lib.cell?_alloc_some _ h3
    case qc3 => intro u hu; obtain ⟨x, _, rfl⟩ := List.mem_map.1 hu; rfl
    case qc4 => unfold maxLen; omega
    case qc5 => omega
    case qc6 => simp
    intro v' w1 hown hgrow hnil
    go_wp2
    go_ret
    exact ⟨v', rfl, by simpa using hown, ((Below.refl _ w).alloc (Nat.le_refl _) _).grown hgrow (by simp) (by intro k hk; simp [Value.ownBlock] at hk; omega)⟩

/-- a new nat that holds xs -/
def NewNat (xs : List Int) (w : World) (e : Ending) (w' : World) : Prop :=
  ∃ b, e = .returned (.pointer (some ⟨b, 0, none⟩)) ∧ NatAt w.heap.size b xs w' ∧ Below w.heap.size w w'

set_option maxHeartbeats 400000 in
set_option maxRecDepth 100000 in
theorem copyNat_any (v : Value) (xs : List Int) (lo hi : Nat) (w : World) (hl : xs.length ≤ 1048576) (hr : Row w lo hi v (intsV xs)) :
    Calls Tryz.prog 190 #[v] w (NewNat xs w) := by
  go_enter Tryz.func190, Tryz.ntmps190
  go_wp2_with fail
  refine (cloneI_any v xs lo hi _ hl hr).mono ?_
  rintro e w1 ⟨v1, rfl, o1, b1⟩
  obtain ⟨A1, c1, rfl⟩ := own_len o1
  go_wp2
  go_ret
  exact ⟨_, rfl, NatAt.new b1.size o1, b1.alloc b1.size _⟩

set_option maxHeartbeats 400000 in
set_option maxRecDepth 100000 in
theorem natResult_any {K : NatK} (B b : Nat) (xs : List Int) (w : World) (hl : xs.length ≤ 1048576) (h : NatX K B b xs w) :
    Calls Tryz.prog 193 #[.pointer (some ⟨b, 0, none⟩)] w (OwnPost B (capL xs) w) := by
  obtain ⟨hB, v, hb, hown, hne⟩ := h
  have hc : w.cell? ⟨b, 0, none⟩ = some v := NatX.cell hb
  obtain ⟨A, c, rfl⟩ := own_len hown
  have HB := Lib.hid hb
  have HO := Lib.hid hown
  clear hb hown hne
  by_cases h50 : 50 < xs.length
  · have HR := Lib.hid (show capL xs = [] by unfold capL; rw [if_pos h50])
    go_enter Tryz.func193, Tryz.ntmps193
    go_wp2
    go_ret
    exact ⟨rfl, _, rfl, by rw [HR.out]; exact World.ownsRow_nil _ _ _ _⟩
  · have HR := Lib.hid (show capL xs = xs by unfold capL; rw [if_neg h50])
    go_enter Tryz.func193, Tryz.ntmps193
    go_wp2
    go_ret
    exact ⟨rfl, _, rfl, by rw [HR.out]; exact HO.out⟩
end Go.Proofs.YthfkdofnoomhaaaGreatDoor

namespace Go.Proofs.YthfkdofnoomhaaaGreatDoor
open Go.RowKit

/-- what a method leaves: the number, and all below B as it was -/
def LeftX (K : NatK) (B b : Nat) (xs : List Int) (w w' : World) : Prop := NatX K B b xs w' ∧ Below B w w'
abbrev Left (B b : Nat) (xs : List Int) (w w' : World) : Prop := LeftX natK B b xs w w'
theorem zeros_step (xs : List Int) (k : Nat) : xs ++ List.replicate k 0 ++ [(0 : Int)] = xs ++ List.replicate (k + 1) 0 := by
  rw [List.append_assoc, List.replicate_succ']
theorem zeros_pad (xs : List Int) (k p : Nat) (h : xs.length + k ≤ p + 1 ∨ k = 0) (h2 : p < xs.length + k) : xs ++ List.replicate k 0 = padL xs (p + 1) := by
  unfold padL
  rw [show p + 1 - xs.length = k by omega]
theorem intsV_append (xs ys : List Int) : intsV (xs ++ ys) = intsV xs ++ intsV ys := by simp [intsV]

/-- a store into the limbs of a nat -/
theorem NatX.stored {K : NatK} {B b g cap : Nat} {xs : List Int} {w : World} (hB : B ≤ b) (hb : w.heap[b]? = some (.cells (.slice (some ⟨g, 0, none⟩) xs.length cap :: K.rest).toArray K.ty (0, 0)))
    (hown : w.ownsRow B 3 1 (.slice (some ⟨g, 0, none⟩) xs.length cap) xs.length (intsV xs)) (p : Nat) (d : Int) :
    LeftX K B b (xs.set p d) w (w.setCell ⟨g, p, none⟩ (.int .i64 d)) ∧ (w.setCell ⟨g, p, none⟩ (.int .i64 d)).heap[b]? = some (.cells (.slice (some ⟨g, 0, none⟩) xs.length cap :: K.rest).toArray K.ty (0, 0)) ∧
      (w.setCell ⟨g, p, none⟩ (.int .i64 d)).ownsRow B 3 1 (.slice (some ⟨g, 0, none⟩) (xs.set p d).length cap) (xs.set p d).length (intsV (xs.set p d)) := by
  have hne := Lib.ownBlock_ne hown hb K.ne
  have hgb : b ≠ g := fun e => hne (by simp [Value.ownBlock, e])
  obtain ⟨ho, hg⟩ := hown.stored p (.int .i64 d)
  have hlt := own_lt hown (g := g) rfl
  have hbs : B ≤ w.heap.size := by omega
  have hb2 : (w.setCell ⟨g, p, none⟩ (.int .i64 d)).heap[b]? = some (.cells (.slice (some ⟨g, 0, none⟩) xs.length cap :: K.rest).toArray K.ty (0, 0)) := (Below.heap_setCell _ _ _ _ hgb).trans hb
  have hl : (xs.set p d).length = xs.length := List.length_set
  rw [intsV_set] at ho
  refine ⟨⟨⟨hB, _, hb2, by rw [hl]; exact ho, hne⟩, (Below.refl _ _).setCell (p := ⟨g, p, none⟩) hlt.1 _⟩, hb2, by rw [hl]; exact ho⟩

set_option maxHeartbeats 1000000 in
set_option maxRecDepth 100000 in
theorem addAt_any {K : NatK} (B b : Nat) (xs : List Int) (p : Nat) (v : Int) (w : World) (hl : xs.length ≤ 1048576) (hp : p ≤ 1048576) (hv0 : 0 ≤ v) (hv1 : v ≤ 1000000000000000000) (hd : DigN xs) (h : NatX K B b xs w) :
    Calls Tryz.prog 207 #[.pointer (some ⟨b, 0, none⟩), .int .i64 p, .int .i64 v] w fun e w' => e = .returned (.int .i64 (addAtC xs p v)) ∧ LeftX K B b (addAtL xs p v) w w' := by
  obtain ⟨i0, hi0, hz0, hz1, hz2⟩ := info_parts intInfo
  have HD := Lib.hid hd
  clear hd
  go_enter Tryz.func207, Tryz.ntmps207
  go_wp2
  go_loopg [] (p + 1 - xs.length) (fun n wr => ∃ k : Nat, Hid (xs.length + k ≤ p + 1 ∨ k = 0) ∧ Hid (n = p + 1 - (xs.length + k)) ∧ NatX K B b (xs ++ List.replicate k 0) wr ∧ Below B w wr)
  case atStart => exact ⟨0, Lib.hid (Or.inr rfl), Lib.hid (by omega), by simpa using h, Below.refl _ _⟩
  case round =>
    obtain ⟨k, HK, HN, hat, hb1⟩ := hrel
    have hlt := hat.lt
    obtain ⟨hB, u, hbk, hown, hne⟩ := hat
    have hlen : (xs ++ List.replicate k (0 : Int)).length = xs.length + k := by simp
    have hxk : xs.length + k ≤ 1048577 := by rcases HK.out with h | h <;> omega
    rw [hlen] at hown
    by_cases hc : xs.length + k ≤ p
    · obtain ⟨A, c, rfl⟩ := own_len hown
      have c1 : wr.cell? ⟨b, 0, none⟩ = some (.slice A (xs.length + k) c) := NatX.cell hbk
      have HB := Lib.hid hbk
      have HE := Lib.hid hne
      clear hbk hne hlen
      go_wp2_with (at_builtin; refine wpList_append_own _ rfl _ _ 22 rfl B 3 i0 (.int .i64 0) 1 8 Tryz.underlying22 hi0 hz0 hz1 hz2 rfl (by decide) _ _ _ rfl (own_alloc hown _) ⟨wr.heap.size, 0, none⟩ 1 1 [.int .i64 0] rfl rfl (one_new _ _ _) ?c2 ?c3 ?c4 ?c5 ?_)
      case c2 => first | (intro u hu; simp at hu; subst hu; rfl) | rfl
      case c3 => unfold maxLen; omega
      case c4 => omega
      case c5 => simp; omega
      intro v1 w1 hown1 hg1 _
      have hb2 : w1.heap[b]? = some (.cells (.slice A (xs.length + k) c :: K.rest).toArray K.ty (0, 0)) := by
        rw [hg1.block b (by simp; omega) (fun e => HE.out e.symm), Below.heap_alloc _ _ _ hlt]
        exact HB.out
      have d1 : w1.cell? ⟨b, 0, none⟩ = some (.slice A (xs.length + k) c) := NatX.cell hb2
      have f1 : w1.frozen? ⟨b, 0, none⟩ = false := Lib.frozen_of_heap hb2 0
      have hb3 : Below B w w1 := (hb1.alloc (by omega) _).grown hg1 (by simp; omega) (fun k hk => (own_lt hown hk).1)
      obtain ⟨A1, cc1, rfl⟩ := own_len hown1
      have hput := NatX.put (ys := xs ++ List.replicate (k + 1) 0) hB hb2 (by rw [← zeros_step, intsV_append]; simpa [intsV, Nat.add_assoc] using hown1)
      have HB2 := Lib.hid hb2
      clear hb2 c1
      go_wp2
      go_roundg (p + 1 - (xs.length + (k + 1)))
      case measure => have := HN.out; omega
      case rel => exact ⟨k + 1, Lib.hid (by omega), Lib.hid rfl, hput, hb3.setCell (p := ⟨b, 0, none⟩) hB _⟩
    · have HP := Lib.hid (zeros_pad xs k p HK.out (by omega))
      obtain ⟨g, cap, rfl, hg1, hg2, hg3⟩ := own_form hown (by omega)
      have c1 : wr.cell? ⟨b, 0, none⟩ = some (.slice (some ⟨g, 0, none⟩) (xs.length + k) cap) := NatX.cell hbk
      have hpl : p < (padL xs (p + 1)).length := by rw [padL_length]; omega
      have hcell := hown.cellAt p (by omega)
      rw [HP.out, intsV_at _ p hpl, padL_at] at hcell
      have hfr := hown.frozenAt p
      have hdg := getD_dig HD.out p
      have hs : xs.length + k = (padL xs (p + 1)).length := by rw [← HP.out, hlen]
      have HST := Lib.hid (NatX.stored (xs := padL xs (p + 1)) hB (by rw [← hs]; exact hbk) (by rw [← hs, ← HP.out]; exact hown) p ((v + xs.getD p 0) % 1000000000))
      have HC := Lib.hid (show addAtC xs p v = (v + xs.getD p 0) / 1000000000 from rfl)
      have HL := Lib.hid (show addAtL xs p v = (padL xs (p + 1)).set p ((v + xs.getD p 0) % 1000000000) from rfl)
      clear hown hbk hs hlen hne
      generalize xs.getD p 0 = dg at hcell hdg HST HC HL
      have hdg0 := hdg.1
      have hdg1 := hdg.2
      clear hdg
      go_wp2
      go_ret
      exact ⟨ret_int HC.out.symm, by rw [HL.out]; exact ⟨HST.out.1.1, hb1.trans HST.out.1.2⟩⟩

/-! ### a number of the call's own with the blocks on which it leans -/
/-- the nat at block b; T: its block and that of its limbs -/
def NatOnX (K : NatK) (T : List Nat) (b : Nat) (xs : List Int) (w : World) : Prop :=
  ∃ v, w.heap[b]? = some (.cells (v :: K.rest).toArray K.ty (0, 0)) ∧ w.ownsRow 0 3 1 v xs.length (intsV xs) ∧ v.ownBlock ≠ some b ∧ T = b :: v.ownBlock.toList
/-- what a method leaves that keeps the blocks -/
def KeptX (K : NatK) (T : List Nat) (b : Nat) (xs : List Int) (w w' : World) : Prop := NatOnX K T b xs w' ∧ Chg T w w'
abbrev NatOn (T : List Nat) (b : Nat) (xs : List Int) (w : World) : Prop := NatOnX natK T b xs w
abbrev Kept (T : List Nat) (b : Nat) (xs : List Int) (w w' : World) : Prop := KeptX natK T b xs w w'
theorem NatOnX.lt {K : NatK} {T : List Nat} {b : Nat} {xs : List Int} {w : World} (h : NatOnX K T b xs w) : b < w.heap.size := by
  obtain ⟨v, hb, _⟩ := h
  exact (Array.getElem?_eq_some_iff.1 hb).1
theorem NatOnX.mem {K : NatK} {T : List Nat} {b : Nat} {xs : List Int} {w : World} (h : NatOnX K T b xs w) : b ∈ T := by
  obtain ⟨v, _, _, _, rfl⟩ := h
  simp
theorem NatOnX.at_ {K : NatK} {T : List Nat} {b : Nat} {xs : List Int} {w : World} (h : NatOnX K T b xs w) : At T (NatOnX K T b xs) w := by
  have hh := h
  obtain ⟨v, hb, ho, hne, rfl⟩ := h
  refine ⟨hh, fun g hg => ?_, fun w' hk => ⟨v, (hk b (by simp)).trans hb, own_stays ho fun g hg => hk g (by simp [hg]), hne, rfl⟩⟩
  rcases List.mem_cons.1 hg with rfl | hg
  · exact (Array.getElem?_eq_some_iff.1 hb).1
  · exact (own_lt ho (by simpa using hg)).2
theorem NatX.on {K : NatK} {B b : Nat} {xs : List Int} {w : World} (h : NatX K B b xs w) : ∃ T, NatOnX K T b xs w ∧ ∀ g ∈ T, B ≤ g := by
  obtain ⟨hB, v, hb, ho, hne⟩ := h
  refine ⟨_, ⟨v, hb, own_zero ho, hne, rfl⟩, fun g hg => ?_⟩
  rcases List.mem_cons.1 hg with rfl | hg
  · exact hB
  · exact (own_lt ho (by simpa using hg)).1
theorem own_raise {w : World} {base n : Nat} {e : TypeId} {v : Value} {xs : List Value} (h : w.ownsRow 0 e 1 v n xs) (hb : ∀ g, v.ownBlock = some g → base ≤ g) : w.ownsRow base e 1 v n xs := by
  obtain ⟨hl, h | ⟨g, cap, cur, rfl, _, r⟩⟩ := h
  · exact ⟨hl, .inl h⟩
  · exact ⟨hl, .inr ⟨g, cap, cur, rfl, hb g rfl, r⟩⟩
theorem NatOnX.natAt {K : NatK} {T : List Nat} {B b : Nat} {xs : List Int} {w : World} (h : NatOnX K T b xs w) (hT : ∀ g ∈ T, B ≤ g) : NatX K B b xs w := by
  obtain ⟨v, hb, ho, hne, rfl⟩ := h
  exact ⟨hT b (by simp), v, hb, own_raise ho fun g hg => hT g (by simp [hg]), hne⟩
theorem KeptX.left {K : NatK} {T : List Nat} {B b : Nat} {xs : List Int} {w w' : World} (h : KeptX K T b xs w w') (hB : B ≤ w.heap.size) (hT : ∀ g ∈ T, B ≤ g) : LeftX K B b xs w w' :=
  ⟨h.1.natAt hT, below_chg (Below.refl _ _) h.2 hB hT⟩
theorem KeptX.trans {K : NatK} {T : List Nat} {b : Nat} {xs ys : List Int} {w w1 w2 : World} (h : KeptX K T b xs w w1) (k : KeptX K T b ys w1 w2) : KeptX K T b ys w w2 := ⟨k.1, h.2.trans k.2⟩
theorem NatX.size {K : NatK} {B b : Nat} {xs : List Int} {w : World} (h : NatX K B b xs w) : B ≤ w.heap.size := by
  have := h.lt
  have := h.1
  omega
theorem NatOnX.put {K : NatK} {T : List Nat} {b : Nat} {v v' : Value} {ys : List Int} {w : World} (hb : w.heap[b]? = some (.cells (v :: K.rest).toArray K.ty (0, 0))) (hown : w.ownsRow 0 3 1 v' ys.length (intsV ys)) (hT : T = b :: v'.ownBlock.toList) :
    NatOnX K T b ys (w.setCell ⟨b, 0, none⟩ v') := by
  obtain ⟨_, u, h1, h2, h3⟩ := NatX.put (Nat.zero_le b) hb hown
  have e : u = v' := by
    have : (w.setCell ⟨b, 0, none⟩ v').heap[b]? = some (.cells (v' :: K.rest).toArray K.ty (0, 0)) := by simp [World.setCell, Array.getElem?_modify, hb]
    rw [this] at h1
    simpa using h1.symm
  subst e
  exact ⟨_, h1, h2, h3, hT⟩
/-- a store into the limbs -/
theorem NatOnX.stored {K : NatK} {b g cap : Nat} {xs : List Int} {w : World} (hb : w.heap[b]? = some (.cells (.slice (some ⟨g, 0, none⟩) xs.length cap :: K.rest).toArray K.ty (0, 0)))
    (hown : w.ownsRow 0 3 1 (.slice (some ⟨g, 0, none⟩) xs.length cap) xs.length (intsV xs)) (hne : (Value.slice (some ⟨g, 0, none⟩) xs.length cap).ownBlock ≠ some b) (p : Nat) (d : Int) :
    KeptX K [b, g] b (xs.set p d) w (w.setCell ⟨g, p, none⟩ (.int .i64 d)) ∧ (w.setCell ⟨g, p, none⟩ (.int .i64 d)).heap[b]? = some (.cells (.slice (some ⟨g, 0, none⟩) xs.length cap :: K.rest).toArray K.ty (0, 0)) ∧
      (w.setCell ⟨g, p, none⟩ (.int .i64 d)).ownsRow 0 3 1 (.slice (some ⟨g, 0, none⟩) (xs.set p d).length cap) (xs.set p d).length (intsV (xs.set p d)) := by
  have hgb : b ≠ g := fun e => hne (by simp [Value.ownBlock, e])
  obtain ⟨ho, hg⟩ := hown.stored p (.int .i64 d)
  have hb2 : (w.setCell ⟨g, p, none⟩ (.int .i64 d)).heap[b]? = some (.cells (.slice (some ⟨g, 0, none⟩) xs.length cap :: K.rest).toArray K.ty (0, 0)) := (Below.heap_setCell _ _ _ _ hgb).trans hb
  have hl : (xs.set p d).length = xs.length := List.length_set
  rw [intsV_set] at ho
  exact ⟨⟨⟨_, hb2, by rw [hl]; exact ho, hne, rfl⟩, (Chg.refl _ _).setCell (p := ⟨g, p, none⟩) (by simp) _⟩, hb2, by rw [hl]; exact ho⟩

set_option maxHeartbeats 1000000 in
set_option maxRecDepth 100000 in
theorem takeAt_on {K : NatK} (T : List Nat) (b : Nat) (xs : List Int) (p : Nat) (v : Int) (w : World) (hl : xs.length ≤ 1048576) (hp : p < xs.length) (hv0 : 0 ≤ v) (hv1 : v ≤ 1000000000000000000) (hd : DigN xs) (h : NatOnX K T b xs w) :
    Calls Tryz.prog 208 #[.pointer (some ⟨b, 0, none⟩), .int .i64 p, .int .i64 v] w fun e w' => e = .returned (.int .i64 (takeAtC xs p v)) ∧ KeptX K T b (takeAtL xs p v) w w' := by
  have hdg := hd.at_ p hp
  have hg : xs.getD p 0 = xs[p] := by rw [List.getD_eq_getElem?_getD, List.getElem?_eq_getElem hp]; rfl
  have HL := Lib.hid (show takeAtL xs p v = xs.set p ((xs[p] - v) % 1000000000) by rw [← hg]; rfl)
  have HC := Lib.hid (show takeAtC xs p v = -((xs[p] - v) / 1000000000) by rw [← hg]; rfl)
  clear hg hd
  obtain ⟨u, hbk, hown, hne, hT⟩ := h
  obtain ⟨g, cap, rfl, hg1, hg2, hg3⟩ := own_form hown (by omega)
  have hT2 : T = [b, g] := hT
  subst hT2
  have c1 : w.cell? ⟨b, 0, none⟩ = some (.slice (some ⟨g, 0, none⟩) xs.length cap) := NatX.cell hbk
  have hcell := hown.cellAt p (by omega)
  rw [intsV_at _ p hp] at hcell
  have hfr := hown.frozenAt p
  have hgb : ¬ b = g := fun e => hne (by simp [Value.ownBlock, e])
  obtain ⟨hs1, hk1, ho1⟩ := NatOnX.stored hbk hown hne p (xs[p] - v % 1000000000)
  have HS1 := Lib.hid hs1
  have hl1 : (xs.set p (xs[p] - v % 1000000000)).length = xs.length := List.length_set
  have HS2 := Lib.hid (NatOnX.stored (xs := xs.set p (xs[p] - v % 1000000000)) (by rw [hl1]; exact hk1) ho1 (by rw [hl1]; exact hne) p (xs[p] - v % 1000000000 + 1000000000))
  rw [List.set_set] at HS2
  clear hown hbk hne hs1 hk1 ho1 hl1 hT
  generalize xs[p] = dg at hcell hdg HS1 HS2 HC HL
  have hdg0 := hdg.1
  have hdg1 := hdg.2
  clear hdg
  by_cases hc : v % 1000000000 ≤ dg
  · have HC2 := Lib.hid (show takeAtC xs p v = v / 1000000000 by rw [HC.out]; omega)
    have HL2 := Lib.hid (show takeAtL xs p v = xs.set p (dg - v % 1000000000) by rw [HL.out]; congr 1; omega)
    clear HC HL
    go_enter Tryz.func208, Tryz.ntmps208
    go_wp2
    go_ret
    exact ⟨ret_int HC2.out.symm, by rw [HL2.out]; exact HS1.out⟩
  · have HC2 := Lib.hid (show takeAtC xs p v = v / 1000000000 + 1 by rw [HC.out]; omega)
    have HL2 := Lib.hid (show takeAtL xs p v = xs.set p (dg - v % 1000000000 + 1000000000) by rw [HL.out]; congr 1; omega)
    clear HC HL
    go_enter Tryz.func208, Tryz.ntmps208
    go_wp2
    go_ret
    exact ⟨ret_int HC2.out.symm, by rw [HL2.out]; exact HS1.out.trans HS2.out.1⟩

set_option maxHeartbeats 1000000 in
set_option maxRecDepth 100000 in
theorem natTrim_on {K : NatK} (T : List Nat) (b : Nat) (xs : List Int) (w : World) (hl : xs.length ≤ 1048576) (h : NatOnX K T b xs w) :
    Calls Tryz.prog 158 #[.pointer (some ⟨b, 0, none⟩)] w fun e w' => e = .returned (.tuple #[]) ∧ KeptX K T b (trimL xs) w w' := by
  have hTm := h.mem
  have HT0 := Lib.hid hTm
  clear hTm
  obtain ⟨v, hbk, hown, hne, hT⟩ := h
  obtain ⟨A, c, e1, hA⟩ := Row.of_own hown
  rw [intsV_length] at e1
  subst e1
  have c1 : w.cell? ⟨b, 0, none⟩ = some (.slice A xs.length c) := NatX.cell hbk
  have f1 : w.frozen? ⟨b, 0, none⟩ = false := Lib.frozen_of_heap hbk 0
  have hcap : xs.length ≤ c := by
    rcases hown.2 with ⟨h1, h2⟩ | ⟨g, cap, cur, e1, _, _, hn, _⟩
    · omega
    · injection e1 with _ _ e3; omega
  have HA := Lib.hid hA
  have HB := Lib.hid hbk
  have HO := Lib.hid hown
  have HTT : Hid (∀ k, T = b :: (Value.slice A k c).ownBlock.toList) := Lib.hid (by intro k; rw [hT]; cases A <;> rfl)
  clear hA hbk hown hne hT
  go_enter Tryz.func158, Tryz.ntmps158
  go_wp2
  go_loop [2] (fun n => ∃ k : Nat, k ≤ xs.length ∧ n = .int .i64 ((k : Int) - 1) ∧ Hid (∀ j (h : j < xs.length), k ≤ j → xs[j] = 0)) (fun n => (intOf n + 1).toNat)
  case atStart => exact ⟨xs.length, Nat.le_refl _, rfl, Lib.hid (fun j h hj => absurd h (by omega))⟩
  case round =>
    obtain ⟨k, hk, rfl, HZ⟩ := hrel
    by_cases h0 : 0 < k
    · obtain ⟨m, rfl⟩ : ∃ m, k = m + 1 := ⟨k - 1, by omega⟩
      have hlt : m < xs.length := by omega
      obtain ⟨a, rfl, _, _, hca⟩ := HA.out m _ (intsV_at xs m hlt)
      have hm1 : ((m + 1 : Nat) : Int) - 1 = (m : Int) := by omega
      rw [hm1]
      clear hm1 h0
      by_cases hz : xs[m] = 0
      · have hzb : (xs[m] == 0) = true := by rw [beq_iff_eq]; exact hz
        have HN : Hid (∀ j (h : j < xs.length), m ≤ j → xs[j] = 0) := Lib.hid (fun j h hj => by
          by_cases e : j = m
          · subst e; exact hz
          · exact HZ.out j h (by omega))
        clear hz
        go_wp2
        go_round
        case rel => exact ⟨m, by omega, rfl, HN⟩
        case measure => simp [intOf]
      · have hzb : (xs[m] == 0) = false := by rw [beq_eq_false_iff_ne]; exact hz
        have HT := Lib.hid (trim_prefix xs (m + 1) hk HZ.out (fun _ _ => hz))
        have HP := Lib.hid (NatOnX.put (ys := xs.take (m + 1)) (v' := .slice (some a) (m + 1) c) HB.out (by
          rw [← intsV_take, List.length_take, show min (m + 1) xs.length = m + 1 from by omega]
          exact own_take (m + 1) hk HO.out) (HTT.out _))
        clear hz
        go_wp2
        go_end0
        exact ⟨rfl, by rw [HT.out]; exact ⟨HP.out, (Chg.refl _ _).setCell (p := ⟨b, 0, none⟩) HT0.out _⟩⟩
    · obtain rfl : k = 0 := by omega
      have HT := Lib.hid (trim_prefix xs 0 hk HZ.out (fun _ h => absurd h (by omega)))
      have HP := Lib.hid (NatOnX.put (ys := xs.take 0) (v' := .slice A 0 c) HB.out (by
          rw [← intsV_take, List.length_take, Nat.zero_min]
          exact own_take 0 hk HO.out) (HTT.out _))
      go_wp2
      go_end0
      exact ⟨rfl, by rw [HT.out]; exact ⟨HP.out, (Chg.refl _ _).setCell (p := ⟨b, 0, none⟩) HT0.out _⟩⟩
theorem natTrim_any {K : NatK} (B b : Nat) (xs : List Int) (w : World) (hl : xs.length ≤ 1048576) (h : NatX K B b xs w) :
    Calls Tryz.prog 158 #[.pointer (some ⟨b, 0, none⟩)] w fun e w' => e = .returned (.tuple #[]) ∧ LeftX K B b (trimL xs) w w' := by
  obtain ⟨T, hT, hB⟩ := h.on
  refine (natTrim_on T b xs w hl hT).mono ?_
  rintro e w' ⟨rfl, hk⟩
  exact ⟨rfl, hk.left h.size hB⟩
end Go.Proofs.YthfkdofnoomhaaaGreatDoor

namespace Go.Proofs.YthfkdofnoomhaaaGreatDoor
open Go.RowKit

/-- how many limbs addTimes reaches -/
def lenM (x y sh : Nat) : Nat := if y = 0 then x else max x (sh + y)
theorem lenM_succ (x k sh : Nat) : max (lenM x k sh) (sh + k + 1) = lenM x (k + 1) sh := by
  unfold lenM
  rw [if_neg (show ¬ k + 1 = 0 by omega)]
  by_cases h : k = 0
  · rw [if_pos h]; omega
  · rw [if_neg h]; omega
theorem lenM_le (x y sh : Nat) (hx : x ≤ 300000) (hy : y ≤ 300000) (hs : sh ≤ 300000) : lenM x y sh ≤ 600000 := by unfold lenM; split <;> omega
theorem take_val_succ (ys : List Int) (k : Nat) (h : k < ys.length) : nval (ys.take (k + 1)) = nval (ys.take k) + bp k * ys[k] := by
  rw [List.take_succ_eq_append_getElem h, nval_append, List.length_take, show min k ys.length = k by omega]
  show _ + bp k * (ys[k] + 1000000000 * 0) = _
  rw [Int.mul_zero, Int.add_zero]
/-- one step of the first loop -/
def TimesR (xs ys : List Int) (f : Int) (sh k : Nat) (cur : List Int) (cr : Int) : Prop :=
  DigN cur ∧ cur.length = lenM xs.length k sh ∧ nval cur + cr * bp (sh + k) = nval xs + f * bp sh * nval (ys.take k) ∧ (k = 0 → cr = 0)
theorem TimesR.start (xs ys : List Int) (f : Int) (sh : Nat) (hd : DigN xs) : TimesR xs ys f sh 0 xs 0 := by
  refine ⟨hd, rfl, ?_, fun _ => rfl⟩
  rw [List.take_zero]
  show nval xs + 0 * _ = nval xs + f * bp sh * 0
  rw [Int.zero_mul, Int.mul_zero]
theorem TimesR.next {xs ys : List Int} {f : Int} {sh k : Nat} {cur : List Int} {cr : Int} (h : TimesR xs ys f sh k cur cr) (hk : k < ys.length) :
    TimesR xs ys f sh (k + 1) (addAtL cur (sh + k) (ys[k] * f + cr)) (addAtC cur (sh + k) (ys[k] * f + cr)) := by
  obtain ⟨h1, h2, h3, _⟩ := h
  refine ⟨addAt_dig h1 _ _, ?_, ?_, fun h => absurd h (by omega)⟩
  · rw [addAt_length, h2, lenM_succ]
  · have e := addAt_val cur (sh + k) (ys[k] * f + cr)
    have e2 : ys[k] * f * bp (sh + k) = f * bp sh * (bp k * ys[k]) := by
      rw [bp_add]
      simp only [Int.mul_assoc, Int.mul_comm, Int.mul_left_comm]
    rw [show sh + (k + 1) = sh + k + 1 by omega, e, take_val_succ ys k hk, Int.add_mul, Int.mul_add, e2]
    omega
theorem carry_bound {cur : List Int} {p : Nat} {v : Int} (h : DigN cur) (h0 : 0 ≤ v) (h1 : v ≤ 999999999000000000) : 0 ≤ addAtC cur p v ∧ addAtC cur p v ≤ 999999999 := by
  have hd := getD_dig h p
  unfold addAtC
  omega
/-- one step of the second loop -/
def CarryR (M : Nat) (N : Int) (pl : Nat) (cur : List Int) (cr : Int) : Prop :=
  DigN cur ∧ nval cur + cr * bp pl = N ∧ ((cur.length = M ∧ (cr = 0 ∨ pl ≤ M)) ∨ (cr = 0 ∧ cur.length = M + 1 ∧ bp M ≤ N))
theorem CarryR.len {M pl : Nat} {N cr : Int} {cur : List Int} (h : CarryR M N pl cur cr) : cur.length ≤ M + 1 := by
  obtain ⟨_, _, ⟨h, _⟩ | ⟨_, h, _⟩⟩ := h <;> omega
theorem CarryR.place {M pl : Nat} {N cr : Int} {cur : List Int} (h : CarryR M N pl cur cr) (hc : 0 < cr) : pl ≤ M ∧ cur.length = M := by
  obtain ⟨_, _, ⟨h, h2 | h2⟩ | ⟨h, _⟩⟩ := h
  · omega
  · exact ⟨h2, h⟩
  · omega
theorem CarryR.next {M pl : Nat} {N cr : Int} {cur : List Int} (h : CarryR M N pl cur cr) (hc : 0 < cr) (h1 : cr ≤ 999999999) : CarryR M N (pl + 1) (addAtL cur pl cr) (addAtC cur pl cr) := by
  obtain ⟨hp, hl⟩ := h.place hc
  obtain ⟨hd, hv, _⟩ := h
  have e := addAt_val cur pl cr
  refine ⟨addAt_dig hd _ _, by rw [e]; exact hv, ?_⟩
  by_cases he : pl = M
  · subst he
    obtain ⟨e1, e2⟩ := addAt_new cur pl cr hl.symm hc h1
    rw [e1]
    refine .inr ⟨rfl, by rw [addAt_length]; omega, ?_⟩
    rw [e1, e2, Int.zero_mul, Int.add_zero] at e
    rw [← hv, ← e, nval_append, hl]
    have h2 := nval_nonneg cur hd
    have h3 := bp_pos pl
    have h4 : nval [cr] = cr := by show cr + 1000000000 * 0 = cr; omega
    rw [h4]
    have h5 := Int.mul_le_mul_of_nonneg_left (show 1 ≤ cr by omega) (show 0 ≤ bp pl by omega)
    omega
  · exact .inl ⟨by rw [addAt_length]; omega, .inr (by omega)⟩

/-- what addTimes leaves -/
def TimesPost (K : NatK) (B b : Nat) (xs ys : List Int) (f : Int) (sh : Nat) (w w' : World) : Prop :=
  ∃ zs, LeftX K B b zs w w' ∧ DigN zs ∧ nval zs = nval xs + f * bp sh * nval ys ∧ (zs.length = lenM xs.length ys.length sh ∨ (zs.length = lenM xs.length ys.length sh + 1 ∧ bp (lenM xs.length ys.length sh) ≤ nval zs))

theorem addAt_at {K : NatK} (B b : Nat) (xs : List Int) (p : Nat) (pz v : Int) (w : World) (hl : xs.length ≤ 1048576) (hp : p ≤ 1048576) (hv0 : 0 ≤ v) (hv1 : v ≤ 1000000000000000000) (hd : DigN xs) (h : NatX K B b xs w) (hz : pz = p) :
    Calls Tryz.prog 207 #[.pointer (some ⟨b, 0, none⟩), .int .i64 pz, .int .i64 v] w fun e w' => e = .returned (.int .i64 (addAtC xs p v)) ∧ LeftX K B b (addAtL xs p v) w w' := by
  subst hz
  exact addAt_any B b xs p v w hl hp hv0 hv1 hd h

set_option maxHeartbeats 1000000 in
set_option maxRecDepth 100000 in
theorem addTimes_any {K : NatK} (B b : Nat) (xs : List Int) (vy : Value) (ys : List Int) (lo hi : Nat) (f : Int) (sh : Nat) (w : World) (hxl : xs.length ≤ 300000) (hyl : ys.length ≤ 300000) (hsh : sh ≤ 300000) (hf0 : 0 ≤ f) (hf1 : f ≤ 999999999)
    (hdx : DigN xs) (hdy : DigN ys) (hhi : hi ≤ B) (hr : Row w lo hi vy (intsV ys)) (h : NatX K B b xs w) :
    Calls Tryz.prog 170 #[.pointer (some ⟨b, 0, none⟩), vy, .int .i64 f, .int .i64 sh] w fun e w' => e = .returned (.tuple #[]) ∧ TimesPost K B b xs ys f sh w w' := by
  obtain ⟨A, c, rfl, hA⟩ := hr
  rw [intsV_length]
  have HA := Lib.hid hA
  have HDX := Lib.hid hdx
  have HDY := Lib.hid hdy
  clear hA hdx hdy
  go_enter Tryz.func170, Tryz.ntmps170
  go_wp2
  go_loopw [8, 14] (fun a i wr => ∃ (k : Nat) (cur : List Int) (cr : Int), k ≤ ys.length ∧ i = .int .i64 k ∧ a = .int .i64 cr ∧ 0 ≤ cr ∧ cr ≤ 999999999 ∧ Hid (TimesR xs ys f sh k cur cr) ∧ NatX K B b cur wr ∧ Below B w wr) (fun _ i _ => ys.length - (intOf i).toNat)
  case atStart => exact ⟨0, xs, 0, Nat.zero_le _, rfl, rfl, by omega, by omega, Lib.hid (TimesR.start xs ys f sh HDX.out), h, Below.refl _ _⟩
  case round =>
    obtain ⟨k, cur, cr, hk, rfl, rfl, hc0, hc1, HR, hat, hb1⟩ := hrel
    have hcl : cur.length ≤ 600000 := by rw [HR.out.2.1]; exact lenM_le _ _ _ hxl (by omega) hsh
    by_cases hlt : k < ys.length
    · obtain ⟨p, rfl, _, hpb, hca⟩ := HA.out k _ (intsV_at ys k hlt)
      have hca' : wr.cell? (p.add k) = some (.int .i64 ys[k]) := (hb1.cell (by rw [block_add]; omega)).trans hca
      have hdy := HDY.out.at_ k hlt
      have hd0 := hdy.1
      have hd1 := hdy.2
      have hm0 : 0 ≤ ys[k] * f := Int.mul_nonneg hd0 hf0
      have hm1 : ys[k] * f ≤ 999999998000000001 := by
        have := Int.mul_le_mul hd1 hf1 hf0 (by omega)
        omega
      have HN := Lib.hid (HR.out.next hlt)
      have HCB := Lib.hid (carry_bound (p := sh + k) (v := ys[k] * f + cr) HR.out.1 (by omega) (by omega))
      clear hca hdy
      go_wp2_with fail
      refine (addAt_at B b cur (sh + k) _ _ _ (by omega) (by omega) (by omega) (by omega) HR.out.1 hat (by omega)).mono ?_
      rintro e w1 ⟨rfl, hat1, hb2⟩
      clear hm0 hm1 hd0 hd1
      go_wp2
      go_roundw
      case rel => exact ⟨k + 1, _, _, by omega, by go_num, rfl, HCB.out.1, HCB.out.2, HN, hat1, hb1.trans hb2⟩
      case measure => simp [intOf]; omega
    · obtain rfl : k = ys.length := by omega
      have HC : Hid (CarryR (lenM xs.length ys.length sh) (nval xs + f * bp sh * nval ys) (sh + ys.length) cur cr) := Lib.hid (by
        obtain ⟨h1, h2, h3, h4⟩ := HR.out
        rw [List.take_of_length_le (Nat.le_refl _)] at h3
        refine ⟨h1, h3, .inl ⟨h2, ?_⟩⟩
        by_cases hy : ys.length = 0
        · exact .inl (h4 hy)
        · right
          unfold lenM
          rw [if_neg hy]
          omega)
      have hM := lenM_le xs.length ys.length sh hxl hyl hsh
      clear HR
      go_wp2
      go_loopw [8, 11] (fun a i wr => ∃ (pl : Nat) (cur : List Int) (cr : Int), pl ≤ 600001 ∧ i = .int .i64 pl ∧ a = .int .i64 cr ∧ 0 ≤ cr ∧ cr ≤ 999999999 ∧ Hid (CarryR (lenM xs.length ys.length sh) (nval xs + f * bp sh * nval ys) pl cur cr) ∧ NatX K B b cur wr ∧ Below B w wr) (fun _ i _ => lenM xs.length ys.length sh + 1 - (intOf i).toNat)
      case atStart => exact ⟨sh + ys.length, cur, cr, by omega, by go_num, rfl, hc0, hc1, HC, hat, hb1⟩
      case round =>
        clear hat hb1 HC hc0 hc1 hcl
        obtain ⟨pl, cur, cr, hpl, rfl, rfl, hc0, hc1, HC, hat, hb1⟩ := hrel
        have hcl := HC.out.len
        by_cases hpos : 0 < cr
        · have hplm := (HC.out.place hpos).1
          have HN := Lib.hid (HC.out.next hpos hc1)
          have HCB := Lib.hid (carry_bound (p := pl) (v := cr) HC.out.1 hc0 (by omega))
          go_wp2_with fail
          refine (addAt_any B b cur pl cr _ (by omega) (by omega) (by omega) (by omega) HC.out.1 hat).mono ?_
          rintro e w1 ⟨rfl, hat1, hb2⟩
          go_wp2
          go_roundw
          case rel => exact ⟨pl + 1, _, _, by omega, by go_num, rfl, HCB.out.1, HCB.out.2, HN, hat1, hb1.trans hb2⟩
          case measure => simp [intOf]; omega
        · obtain rfl : cr = 0 := by omega
          go_wp2
          go_end0
          refine ⟨rfl, cur, ⟨hat, hb1⟩, HC.out.1, ?_, ?_⟩
          · have := HC.out.2.1
            rw [Int.zero_mul, Int.add_zero] at this
            exact this
          · obtain ⟨_, h2, h3⟩ := HC.out
            rw [Int.zero_mul, Int.add_zero] at h2
            rcases h3 with h3 | h3
            · exact .inl h3.1
            · exact .inr ⟨h3.2.1, by rw [h2]; exact h3.2.2⟩

/-- a row with the blocks on which it leans -/
theorem Row.on {w : World} {lo hi : Nat} {v : Value} {xs : List Value} (h : Row w lo hi v xs) : ∃ S, At S (fun w => Row w lo hi v xs) w ∧ Within S lo hi := by
  have hh := h
  obtain ⟨A, c, rfl, h⟩ := h
  cases xs with
  | nil => exact ⟨[], ⟨hh, fun g hg => absurd hg (by simp), fun w' _ => Row.nil_ A c⟩, fun g hg => absurd hg (by simp)⟩
  | cons x r =>
    obtain ⟨a, rfl, h1, h2, h3⟩ := h 0 x rfl
    have hlt := cell_lt h3
    rw [block_add] at hlt
    refine ⟨[a.block], ⟨hh, fun g hg => by simp at hg; omega, fun w' hk => ⟨_, c, rfl, fun j u hj => ?_⟩⟩, fun g hg => by simp at hg; omega⟩
    obtain ⟨a', e, k1, k2, k3⟩ := h j u hj
    cases e
    refine ⟨a, rfl, k1, k2, ?_⟩
    rw [← k3]
    have hb := hk a.block (by simp)
    unfold World.cell?
    rw [block_add, hb]

/-- one step of takeTimes -/
def TakeR (xs ys : List Int) (f : Int) (sh k pl : Nat) (cur : List Int) (br : Int) : Prop :=
  DigN cur ∧ cur.length = xs.length ∧ nval cur - br * bp pl = nval xs - f * bp sh * nval (ys.take k)
theorem TakeR.start (xs ys : List Int) (f : Int) (sh : Nat) (hd : DigN xs) : TakeR xs ys f sh 0 (sh + 0) xs 0 := by
  refine ⟨hd, rfl, ?_⟩
  rw [List.take_zero, Int.zero_mul]
  show _ = nval xs - f * bp sh * 0
  rw [Int.mul_zero]
theorem TakeR.next {xs ys : List Int} {f : Int} {sh k : Nat} {cur : List Int} {br : Int} (h : TakeR xs ys f sh k (sh + k) cur br) (hk : k < ys.length) (hl : sh + ys.length ≤ xs.length) :
    TakeR xs ys f sh (k + 1) (sh + (k + 1)) (takeAtL cur (sh + k) (ys[k] * f + br)) (takeAtC cur (sh + k) (ys[k] * f + br)) := by
  obtain ⟨a1, a2, a3⟩ := h
  refine ⟨takeAt_dig a1 _ _, by rw [takeAt_length, a2], ?_⟩
  have e2 : ys[k] * f * bp (sh + k) = f * bp sh * (bp k * ys[k]) := by
    rw [bp_add]
    simp only [Int.mul_assoc, Int.mul_comm, Int.mul_left_comm]
  rw [show sh + (k + 1) = sh + k + 1 by omega, takeAt_val cur (sh + k) _ (by omega), take_val_succ ys k hk, Int.add_mul, Int.mul_add, e2]
  omega
theorem TakeR.next2 {xs ys : List Int} {f : Int} {sh k pl : Nat} {cur : List Int} {br : Int} (h : TakeR xs ys f sh k pl cur br) (hl : pl < xs.length) :
    TakeR xs ys f sh k (pl + 1) (takeAtL cur pl br) (takeAtC cur pl br) := by
  obtain ⟨a1, a2, a3⟩ := h
  refine ⟨takeAt_dig a1 _ _, by rw [takeAt_length, a2], ?_⟩
  rw [takeAt_val cur pl _ (by omega)]
  exact a3
/-- the last borrow finds a limb -/
theorem TakeR.room {xs ys : List Int} {f : Int} {sh pl : Nat} {cur : List Int} {br : Int} (h : TakeR xs ys f sh ys.length pl cur br) (hle : f * bp sh * nval ys ≤ nval xs) (hb : 0 < br) : pl < xs.length := by
  obtain ⟨a1, a2, a3⟩ := h
  rw [List.take_of_length_le (Nat.le_refl _)] at a3
  rcases Nat.lt_or_ge pl xs.length with h | h
  · exact h
  · have h1 := nval_lt cur a1
    have h2 := bp_mono (show cur.length ≤ pl by omega)
    have h3 := bp_pos pl
    have h4 := Int.mul_le_mul_of_nonneg_right (show 1 ≤ br by omega) (show 0 ≤ bp pl by omega)
    omega
theorem TakeR.done {xs ys : List Int} {f : Int} {sh pl : Nat} {cur : List Int} (h : TakeR xs ys f sh ys.length pl cur 0) : trimL cur = limbs (nval xs - f * bp sh * nval ys).toNat := by
  obtain ⟨a1, a2, a3⟩ := h
  rw [List.take_of_length_le (Nat.le_refl _), Int.zero_mul] at a3
  rw [trim_limbs cur a1]
  congr 2
  omega

theorem takeAt_onz {K : NatK} (T : List Nat) (b : Nat) (xs : List Int) (p : Nat) (pz v : Int) (w : World) (hl : xs.length ≤ 1048576) (hp : p < xs.length) (hv0 : 0 ≤ v) (hv1 : v ≤ 1000000000000000000) (hd : DigN xs) (h : NatOnX K T b xs w) (hz : pz = p) :
    Calls Tryz.prog 208 #[.pointer (some ⟨b, 0, none⟩), .int .i64 pz, .int .i64 v] w fun e w' => e = .returned (.int .i64 (takeAtC xs p v)) ∧ KeptX K T b (takeAtL xs p v) w w' := by
  subst hz
  exact takeAt_on T b xs p v w hl hp hv0 hv1 hd h

set_option maxHeartbeats 1000000 in
set_option maxRecDepth 100000 in
theorem takeTimes_on {K : NatK} (T S : List Nat) (b : Nat) (xs : List Int) (vy : Value) (ys : List Int) (lo hi : Nat) (f : Int) (sh : Nat) (w : World) (hxl : xs.length ≤ 1048576) (hyl : sh + ys.length ≤ xs.length) (hf0 : 0 ≤ f) (hf1 : f ≤ 999999999)
    (hdx : DigN xs) (hdy : DigN ys) (hle : f * bp sh * nval ys ≤ nval xs) (hST : ∀ g ∈ S, g ∉ T) (hr : At S (fun w => Row w lo hi vy (intsV ys)) w) (h : NatOnX K T b xs w) :
    Calls Tryz.prog 171 #[.pointer (some ⟨b, 0, none⟩), vy, .int .i64 f, .int .i64 sh] w fun e w' => e = .returned (.tuple #[]) ∧ KeptX K T b (limbs (nval xs - f * bp sh * nval ys).toNat) w w' := by
  have HST := Lib.hid hST
  have HR0 := Lib.hid hr
  obtain ⟨A, c, rfl, _⟩ := hr.here
  rw [intsV_length]
  rw [intsV_length] at HR0
  have HDX := Lib.hid hdx
  have HDY := Lib.hid hdy
  have HLE := Lib.hid hle
  clear hdx hdy hr hST hle
  go_enter Tryz.func171, Tryz.ntmps171
  go_wp2
  go_loopw [8, 14] (fun a i wr => ∃ (k : Nat) (cur : List Int) (br : Int), k ≤ ys.length ∧ i = .int .i64 k ∧ a = .int .i64 br ∧ 0 ≤ br ∧ br ≤ 999999999 ∧ Hid (TakeR xs ys f sh k (sh + k) cur br) ∧ KeptX K T b cur w wr) (fun _ i _ => ys.length - (intOf i).toNat)
  case atStart => exact ⟨0, xs, 0, Nat.zero_le _, rfl, rfl, by omega, by omega, Lib.hid (TakeR.start xs ys f sh HDX.out), h, Chg.refl _ _⟩
  case round =>
    obtain ⟨k, cur, br, hk, rfl, rfl, hc0, hc1, HR, hat⟩ := hrel
    have hcl : cur.length ≤ 1048576 := by rw [HR.out.2.1]; exact hxl
    by_cases hlt : k < ys.length
    · obtain ⟨A', c', e, hA⟩ := (HR0.out.chg hat.2 HST.out).here
      injection e with e1 e2 e3
      subst e1 e3
      clear e2
      obtain ⟨p, rfl, _, hpb, hca⟩ := hA k _ (intsV_at ys k hlt)
      clear hA
      have hdy := HDY.out.at_ k hlt
      have hd0 := hdy.1
      have hd1 := hdy.2
      have hm0 : 0 ≤ ys[k] * f := Int.mul_nonneg hd0 hf0
      have hm1 : ys[k] * f ≤ 999999998000000001 := by
        have := Int.mul_le_mul hd1 hf1 hf0 (by omega)
        omega
      have HN := Lib.hid (HR.out.next hlt hyl)
      have HCB := Lib.hid (takeAt_bound HR.out.1 (sh + k) (ys[k] * f + br) (by omega) (by omega))
      clear hdy
      go_wp2_with fail
      refine (takeAt_onz T b cur (sh + k) _ _ _ hcl (by rw [HR.out.2.1]; omega) (by omega) (by omega) HR.out.1 hat.1 (by omega)).mono ?_
      rintro e w1 ⟨rfl, hat1⟩
      clear hm0 hm1 hd0 hd1
      go_wp2
      go_roundw
      case rel => exact ⟨k + 1, _, _, by omega, by go_num, rfl, HCB.out.1, HCB.out.2, HN, hat.trans hat1⟩
      case measure => simp [intOf]; omega
    · obtain rfl : k = ys.length := by omega
      go_wp2
      go_loopw [8, 11] (fun a i wr => ∃ (pl : Nat) (cur : List Int) (br : Int), pl ≤ xs.length ∧ i = .int .i64 pl ∧ a = .int .i64 br ∧ 0 ≤ br ∧ br ≤ 999999999 ∧ Hid (TakeR xs ys f sh ys.length pl cur br) ∧ KeptX K T b cur w wr) (fun _ i _ => xs.length - (intOf i).toNat)
      case atStart => exact ⟨sh + ys.length, cur, br, hyl, by go_num, rfl, hc0, hc1, HR, hat⟩
      case round =>
        clear hat HR hc0 hc1 hcl
        obtain ⟨pl, cur, br, hpl, rfl, rfl, hc0, hc1, HR, hat⟩ := hrel
        have hcl : cur.length ≤ 1048576 := by rw [HR.out.2.1]; exact hxl
        by_cases hpos : 0 < br
        · have hplm := HR.out.room HLE.out hpos
          have HN := Lib.hid (HR.out.next2 hplm)
          have HCB := Lib.hid (takeAt_bound HR.out.1 pl br (by omega) (by omega))
          go_wp2_with fail
          refine (takeAt_on T b cur pl br _ hcl (by rw [HR.out.2.1]; omega) (by omega) (by omega) HR.out.1 hat.1).mono ?_
          rintro e w1 ⟨rfl, hat1⟩
          go_wp2
          go_roundw
          case rel => exact ⟨pl + 1, _, _, by omega, by go_num, rfl, HCB.out.1, HCB.out.2, HN, hat.trans hat1⟩
          case measure => simp [intOf]; omega
        · obtain rfl : br = 0 := by omega
          have HF := Lib.hid HR.out.done
          go_wp2_with fail
          refine (natTrim_on T b cur _ hcl hat.1).mono ?_
          rintro e w1 ⟨rfl, hat1⟩
          go_wp2
          go_end0
          exact ⟨rfl, by rw [← HF.out]; exact hat.trans hat1⟩
theorem natTake_any {K : NatK} (B b : Nat) (xs : List Int) (vy : Value) (ys : List Int) (lo hi : Nat) (w : World) (hxl : xs.length ≤ 1048576) (hyl : ys.length ≤ xs.length)
    (hdx : DigN xs) (hdy : DigN ys) (hle : nval ys ≤ nval xs) (hhi : hi ≤ B) (hr : Row w lo hi vy (intsV ys)) (h : NatX K B b xs w) :
    Calls Tryz.prog 171 #[.pointer (some ⟨b, 0, none⟩), vy, .int .i64 1, .int .i64 0] w fun e w' => e = .returned (.tuple #[]) ∧ LeftX K B b (limbs (nval xs - nval ys).toNat) w w' := by
  obtain ⟨T, hT, hB⟩ := h.on
  obtain ⟨S, hS, hW⟩ := hr.on
  have e1 : 1 * bp 0 * nval ys = nval ys := by show 1 * 1 * nval ys = nval ys; omega
  refine (takeTimes_on T S b xs vy ys lo hi 1 0 w hxl (by omega) (by omega) (by omega) hdx hdy (by omega) (fun g hg hm => by have := hB g hm; have := (hW g hg).2; omega) hS hT).mono ?_
  rintro e w' ⟨rfl, hk⟩
  rw [e1] at hk
  exact ⟨rfl, hk.left h.size hB⟩
end Go.Proofs.YthfkdofnoomhaaaGreatDoor

namespace Go.Proofs.YthfkdofnoomhaaaGreatDoor
open Go.RowKit

theorem add_limbs {a b zs : List Int} (oa : natOkB a = true) (ob : natOkB b = true) (hd : DigN zs) (hv : nval zs = nval a + 1 * bp 0 * nval b)
    (hl : zs.length = lenM a.length b.length 0 ∨ (zs.length = lenM a.length b.length 0 + 1 ∧ bp (lenM a.length b.length 0) ≤ nval zs)) : zs = limbs (nval a + nval b).toNat := by
  have hv2 : nval zs = nval a + nval b := by
    have : bp 0 = 1 := rfl
    rw [this, Int.one_mul, Int.one_mul] at hv
    exact hv
  have na := nval_nonneg a (natOk_parts oa).1
  have nb := nval_nonneg b (natOk_parts ob).1
  rw [← hv2]
  apply limbs_of_ge zs hd
  intro h0
  rcases hl with hl | ⟨hl, hg⟩
  · unfold lenM at hl
    by_cases hb : b.length = 0
    · rw [if_pos hb] at hl
      have := ok_ge oa (by omega)
      rw [hl]
      omega
    · rw [if_neg hb] at hl
      have h2 := ok_ge ob (by omega)
      by_cases hab : b.length ≤ a.length
      · have h1 := ok_ge oa (by omega)
        rw [hl, show max a.length (0 + b.length) = a.length by omega]
        omega
      · rw [hl, show max a.length (0 + b.length) = b.length by omega]
        omega
  · rw [hl, show lenM a.length b.length 0 + 1 - 1 = lenM a.length b.length 0 by omega]
    exact hg
theorem new_own {w w1 w2 : World} {xs ys : List Int} {v : Value} (h : OwnPost w.heap.size ys w1 (.returned v) w2) (hb : Below w.heap.size w w1) (e : xs = ys) : NewInts xs w (.returned v) w2 := by
  subst e
  obtain ⟨rfl, v', e1, ho⟩ := h
  cases e1
  exact ⟨_, rfl, ho, hb⟩

/-- the cases of bad arguments are told by one lemma of the walk: both are right -/
theorem addN_ok {a b : List Int} (oa : natOkB a = true) (ob : natOkB b = true) : addN a b = natRes (nval a + nval b) := by unfold addN; rw [if_pos ⟨oa, ob⟩]
theorem subN_ok {a b : List Int} (oa : natOkB a = true) (ob : natOkB b = true) : subN a b = natRes (nval a - nval b) := by unfold subN; rw [if_pos ⟨oa, ob⟩]
theorem mulN_ok {a b : List Int} (oa : natOkB a = true) (ob : natOkB b = true) : mulN a b = natRes (nval a * nval b) := by unfold mulN; rw [if_pos ⟨oa, ob⟩]

set_option maxHeartbeats 1000000 in
set_option maxRecDepth 100000 in
theorem implNatAdd_any (va vb : Value) (a b : List Int) (la ha lb hb : Nat) (w : World) (hal : a.length ≤ 1048576) (hbl : b.length ≤ 1048576) (_ : ha ≤ w.heap.size) (hhb : hb ≤ w.heap.size)
    (hra : Row w la ha va (intsV a)) (hrb : Row w lb hb vb (intsV b)) :
    Calls Tryz.prog 147 #[va, vb] w (NewInts (addN a b) w) := by
  by_cases oa : natOkB a = true
  · by_cases ob : natOkB b = true
    · have HN := Lib.hid (addN_ok oa ob)
      have OA := Lib.hid oa
      have OB := Lib.hid ob
      have pa := (natOk_parts oa).2.1
      have pb := (natOk_parts ob).2.1
      go_enter Tryz.func147, Tryz.ntmps147
      go_wp2_with fail
      refine (implNatOk_same va a la ha _ (by omega) hra).mono ?_
      rintro e w' ⟨rfl, rfl⟩
      rw [oa]
      go_wp2_with fail
      refine (implNatOk_same vb b lb hb _ (by omega) hrb).mono ?_
      rintro e w' ⟨rfl, rfl⟩
      rw [ob]
      clear oa ob
      go_wp2_with fail
      refine (copyNat_any va a la ha _ hal hra).mono ?_
      rintro e w1 ⟨p, rfl, hat, hb1⟩
      go_wp2_with fail
      refine (addTimes_any w.heap.size p a vb b lb hb 1 0 _ (by omega) (by omega) (by omega) (by omega) (by omega) (natOk_parts OA.out).1 (natOk_parts OB.out).1 hhb (hrb.below hb1 hhb) hat).mono ?_
      rintro e w2 ⟨rfl, zs, ⟨hat2, hb2⟩, hd, hv, hl⟩
      have HZ := Lib.hid (add_limbs OA.out OB.out hd hv hl)
      have hzl : zs.length ≤ 101 := by
        rcases hl with hl | ⟨hl, _⟩
        · rw [hl]; unfold lenM; split <;> omega
        · rw [hl]; unfold lenM; split <;> omega
      clear hv hl hd
      go_wp2_with fail
      refine (natResult_any w.heap.size p zs _ (by omega) hat2).mono ?_
      rintro e w3 hpost
      obtain ⟨rfl, v3, rfl, ho⟩ := hpost
      go_wp2
      go_ret
      exact ⟨_, rfl, by rw [HN.out]; unfold natRes; rw [← HZ.out]; exact ho, hb1.trans hb2⟩
    · have ob' : natOkB b = false := by simpa using ob
      have HN := Lib.hid (show addN a b = [] by unfold addN; rw [if_neg (fun h => ob h.2)])
      clear ob
      go_enter Tryz.func147, Tryz.ntmps147
      go_wp2_with fail
      refine (implNatOk_same va a la ha _ (by omega) hra).mono ?_
      rintro e w' ⟨rfl, rfl⟩
      rw [oa]
      go_wp2_with fail
      refine (implNatOk_same vb b lb hb _ (by omega) hrb).mono ?_
      rintro e w' ⟨rfl, rfl⟩
      rw [ob']
      go_wp2
      go_ret
      rw [HN.out]
      exact new_nil (Below.refl _ _)
  · have oa' : natOkB a = false := by simpa using oa
    have HN := Lib.hid (show addN a b = [] by unfold addN; rw [if_neg (fun h => oa h.1)])
    clear oa
    go_enter Tryz.func147, Tryz.ntmps147
    go_wp2_with fail
    refine (implNatOk_same va a la ha _ (by omega) hra).mono ?_
    rintro e w' ⟨rfl, rfl⟩
    rw [oa']
    go_wp2
    go_ret
    rw [HN.out]
    exact new_nil (Below.refl _ _)

theorem cmpN_neg {a b : List Int} (oa : natOkB a = true) (ob : natOkB b = true) (h : nval a < nval b) : cmpN a b = -1 := by unfold cmpN; rw [if_pos ⟨oa, ob⟩]; exact cmp_lt h
theorem cmpN_nn {a b : List Int} (oa : natOkB a = true) (ob : natOkB b = true) (h : nval b ≤ nval a) : ¬ cmpN a b < 0 := by
  unfold cmpN
  rw [if_pos ⟨oa, ob⟩]
  unfold cmpI
  rw [if_neg (by omega)]
  split <;> omega
theorem lens_of_le {a b : List Int} (oa : natOkB a = true) (ob : natOkB b = true) (h : nval b ≤ nval a) : b.length ≤ a.length := by
  rcases Nat.lt_or_ge a.length b.length with hl | hl
  · have := nval_short a b (natOk_parts oa).1 (natOk_parts ob).1 hl (natOk_parts ob).2.2
    omega
  · exact hl
theorem limbs_sub_len {a b : List Int} (oa : natOkB a = true) (ob : natOkB b = true) (h : nval b ≤ nval a) : (limbs (nval a - nval b).toNat).length ≤ 50 := by
  have h1 := subL_val a b 0 (natOk_parts oa).1 (natOk_parts ob).1 (lens_of_le oa ob h) (by omega) (by omega) (by omega)
  have h2 := trim_limbs _ h1.2.1
  have h3 := trimL_length (subL a b 0)
  have h4 := (natOk_parts oa).2.1
  rw [h2, h1.1, Int.sub_zero] at h3
  omega


/-- the product so far -/
def MulR (a b : List Int) (i : Nat) (cur : List Int) : Prop :=
  DigN cur ∧ nval cur = nval (a.take i) * nval b ∧ cur.length ≤ i + b.length ∧ (cur.length ≤ i + b.length - 1 ∨ bp (cur.length - 1) ≤ nval cur) ∧ (i = 0 → cur = []) ∧ (b.length = 0 → cur = [])
theorem MulR.start (a b : List Int) : MulR a b 0 [] := by
  refine ⟨(fun d hd => by cases hd), ?_, by simp, .inl (by simp), fun _ => rfl, fun _ => rfl⟩
  rw [List.take_zero]
  show (0 : Int) = 0 * nval b
  rw [Int.zero_mul]
theorem MulR.next {a b cur zs : List Int} {i : Nat} (h : MulR a b i cur) (hi : i < a.length) (hd : DigN zs) (hv : nval zs = nval cur + a[i] * bp i * nval b)
    (hl : zs.length = lenM cur.length b.length i ∨ (zs.length = lenM cur.length b.length i + 1 ∧ bp (lenM cur.length b.length i) ≤ nval zs)) : MulR a b (i + 1) zs := by
  obtain ⟨h1, h2, h3, h4, h5, h6⟩ := h
  have hval : nval zs = nval (a.take (i + 1)) * nval b := by
    rw [hv, h2, take_val_succ a i hi, Int.add_mul, Int.mul_comm a[i]]
  unfold lenM at hl
  by_cases hb : b.length = 0
  · have hb0 : b = [] := List.eq_nil_of_length_eq_zero hb
    have hc0 := h6 hb
    subst hb0
    subst hc0
    rw [if_pos hb] at hl
    have hz : nval zs = 0 := by rw [hval]; exact Int.mul_zero _
    have hzs : zs = [] := by
      rcases hl with hl | ⟨_, hg⟩
      · exact List.eq_nil_of_length_eq_zero hl
      · have := bp_pos (([] : List Int).length)
        omega
    subst hzs
    exact ⟨hd, hval, by simp, .inl (by simp), fun _ => rfl, fun _ => rfl⟩
  · rw [if_neg hb, show max cur.length (i + b.length) = i + b.length by omega] at hl
    refine ⟨hd, hval, by omega, ?_, fun h => absurd h (by omega), fun h => absurd h hb⟩
    rcases hl with hl | ⟨hl, hg⟩
    · exact .inl (by omega)
    · right
      rw [hl, show i + b.length + 1 - 1 = i + b.length by omega]
      exact hg
theorem MulR.done {a b cur : List Int} (h : MulR a b a.length cur) (oa : natOkB a = true) (ob : natOkB b = true) : cur = limbs (nval a * nval b).toNat := by
  obtain ⟨h1, h2, h3, h4, h5, h6⟩ := h
  rw [List.take_of_length_le (Nat.le_refl _)] at h2
  rw [← h2]
  apply limbs_of_ge cur h1
  intro h0
  rcases h4 with h4 | h4
  · have ha : 0 < a.length := by
      rcases Nat.eq_zero_or_pos a.length with e | e
      · rw [h5 e] at h0; simp at h0
      · exact e
    have hb : 0 < b.length := by
      rcases Nat.eq_zero_or_pos b.length with e | e
      · rw [h6 e] at h0; simp at h0
      · exact e
    have ga := ok_ge oa ha
    have gb := ok_ge ob hb
    have pa := bp_pos (a.length - 1)
    have pb := bp_pos (b.length - 1)
    have hm := Int.mul_le_mul ga gb (by omega) (by omega)
    rw [← bp_add, ← h2] at hm
    have := bp_mono (show cur.length - 1 ≤ a.length - 1 + (b.length - 1) by omega)
    omega
  · exact h4

set_option maxHeartbeats 1000000 in
set_option maxRecDepth 100000 in
theorem implNatMul_any (va vb : Value) (a b : List Int) (la ha lb hb : Nat) (w : World) (hal : a.length ≤ 1048576) (hbl : b.length ≤ 1048576) (hha : ha ≤ w.heap.size) (hhb : hb ≤ w.heap.size)
    (hra : Row w la ha va (intsV a)) (hrb : Row w lb hb vb (intsV b)) :
    Calls Tryz.prog 149 #[va, vb] w (NewInts (mulN a b) w) := by
  by_cases oa : natOkB a = true
  · by_cases ob : natOkB b = true
    · have HN := Lib.hid (mulN_ok oa ob)
      have OA := Lib.hid oa
      have OB := Lib.hid ob
      have pa := (natOk_parts oa).2.1
      have pb := (natOk_parts ob).2.1
      have ra := hra
      obtain ⟨A, ca, rfl, hA⟩ := hra
      rw [intsV_length] at ra ⊢
      have HA := Lib.hid hA
      clear hA
      go_enter Tryz.func149, Tryz.ntmps149
      go_wp2_with fail
      refine (implNatOk_same _ a la ha _ (by omega) ra).mono ?_
      rintro e w' ⟨rfl, rfl⟩
      rw [oa]
      go_wp2_with fail
      refine (implNatOk_same vb b lb hb _ (by omega) hrb).mono ?_
      rintro e w' ⟨rfl, rfl⟩
      rw [ob]
      clear oa ob
      go_wp2
      go_loopw [18] (fun i wr => ∃ (k : Nat) (cur : List Int), k ≤ a.length ∧ i = .int .i64 k ∧ Hid (MulR a b k cur) ∧ NatAt w.heap.size w.heap.size cur wr ∧ Below w.heap.size w wr) (fun i _ => a.length - (intOf i).toNat)
      case atStart => exact ⟨0, [], Nat.zero_le _, rfl, Lib.hid (MulR.start a b), NatAt.new (Nat.le_refl _) (World.ownsRow_nil _ _ _ _), (Below.refl _ _).alloc (Nat.le_refl _) _⟩
      case round =>
        obtain ⟨k, cur, hk, rfl, HM, hat, hb1⟩ := hrel
        have hcl : cur.length ≤ 100 := by have := HM.out.2.2.1; omega
        by_cases hlt : k < a.length
        · obtain ⟨p, rfl, _, hpb, hca⟩ := HA.out k _ (intsV_at a k hlt)
          have hca' : wr.cell? (p.add k) = some (.int .i64 a[k]) := (hb1.cell (by rw [block_add]; omega)).trans hca
          have hda := (natOk_parts OA.out).1.at_ k hlt
          have hd0 := hda.1
          have hd1 := hda.2
          clear hca hda
          go_wp2_with fail
          refine (addTimes_any w.heap.size w.heap.size cur vb b lb hb a[k] k _ (by omega) (by omega) (by omega) hd0 hd1 HM.out.1 (natOk_parts OB.out).1 hhb (hrb.below hb1 hhb) hat).mono ?_
          rintro e w2 ⟨rfl, zs, ⟨hat2, hb2⟩, hd, hv, hl⟩
          have HM2 := Lib.hid (HM.out.next hlt hd hv hl)
          clear hd hv hl hd0 hd1
          go_wp2
          go_roundw
          case rel => exact ⟨k + 1, zs, by omega, by go_num, HM2, hat2, hb1.trans hb2⟩
          case measure => simp [intOf]; omega
        · obtain rfl : k = a.length := by omega
          have HZ := Lib.hid (HM.out.done OA.out OB.out)
          go_wp2_with fail
          refine (natResult_any w.heap.size w.heap.size cur _ (by omega) hat).mono ?_
          rintro e w3 hpost
          obtain ⟨rfl, v3, rfl, ho⟩ := hpost
          go_wp2
          go_ret
          exact ⟨_, rfl, by rw [HN.out]; unfold natRes; rw [← HZ.out]; exact ho, hb1⟩
    · have ob' : natOkB b = false := by simpa using ob
      have HN := Lib.hid (show mulN a b = [] by unfold mulN; rw [if_neg (fun h => ob h.2)])
      clear ob
      go_enter Tryz.func149, Tryz.ntmps149
      go_wp2_with fail
      refine (implNatOk_same va a la ha _ (by omega) hra).mono ?_
      rintro e w' ⟨rfl, rfl⟩
      rw [oa]
      go_wp2_with fail
      refine (implNatOk_same vb b lb hb _ (by omega) hrb).mono ?_
      rintro e w' ⟨rfl, rfl⟩
      rw [ob']
      go_wp2
      go_ret
      rw [HN.out]
      exact new_nil (Below.refl _ _)
  · have oa' : natOkB a = false := by simpa using oa
    have HN := Lib.hid (show mulN a b = [] by unfold mulN; rw [if_neg (fun h => oa h.1)])
    clear oa
    go_enter Tryz.func149, Tryz.ntmps149
    go_wp2_with fail
    refine (implNatOk_same va a la ha _ (by omega) hra).mono ?_
    rintro e w' ⟨rfl, rfl⟩
    rw [oa']
    go_wp2
    go_ret
    rw [HN.out]
    exact new_nil (Below.refl _ _)
end Go.Proofs.YthfkdofnoomhaaaGreatDoor

namespace Go.Proofs.YthfkdofnoomhaaaGreatDoor
open Go.RowKit

set_option maxHeartbeats 400000 in
set_option maxRecDepth 100000 in
theorem limbAt_any (v : Value) (xs : List Int) (p : Int) (lo hi : Nat) (w : World) (_hl : xs.length ≤ 1048576) (hr : Row w lo hi v (intsV xs)) :
    Calls Tryz.prog 213 #[v, .int .i64 p] w fun e w' => e = .returned (.int .i64 (if p < 0 then 0 else xs.getD p.toNat 0)) ∧ w = w' := by
  obtain ⟨A, c, rfl, hA⟩ := hr
  rw [intsV_length]
  by_cases h0 : p < 0
  · rw [if_pos h0]
    go_enter Tryz.func213, Tryz.ntmps213
    go_wp2
    go_ret
    exact ⟨rfl, rfl⟩
  · rw [if_neg h0]
    obtain ⟨n, rfl⟩ := Int.eq_ofNat_of_zero_le (show 0 ≤ p by omega)
    rw [Int.toNat_natCast]
    by_cases h1 : n < xs.length
    · obtain ⟨a, rfl, _, _, hca⟩ := hA n _ (intsV_at xs n h1)
      rw [List.getD_eq_getElem?_getD, List.getElem?_eq_getElem h1, Option.getD_some]
      clear h0
      generalize xs[n] = x at *
      go_enter Tryz.func213, Tryz.ntmps213
      go_wp2
      go_ret
      exact ⟨rfl, rfl⟩
    · rw [List.getD_eq_getElem?_getD, List.getElem?_eq_none (by omega)]
      clear h0
      go_enter Tryz.func213, Tryz.ntmps213
      go_wp2
      go_ret
      exact ⟨rfl, rfl⟩
theorem TwoRows.postII {xs ys : List Int} {w w' : World} {e : Ending} (h : TwoRows xs ys w e w') : PostII xs ys w e w' := by
  obtain ⟨v1, v2, rfl, o1, o2, ap, b⟩ := h
  exact ⟨v1, _, v2, _, rfl, own_at o1, own_at o2, own_within o1, own_within o2, fun g h1 h2 => ap g g (by simpa using h1) (by simpa using h2) rfl, b⟩
end Go.Proofs.YthfkdofnoomhaaaGreatDoor

namespace Go.Proofs
open Go.Shelf
def Tryz.lays169_ren : Go.Shelf.Ren := ⟨fun | 169 => 167 | n => n, fun | 70 => 165 | 9 => 9 | 0 => 0 | 72 => 167 | 37 => 51 | 127 => 199 | 3 => 3 | 5 => 5 | n => n, fun | n => n⟩
theorem Tryz.lays169 : Go.Proofs.Lays.n169 Tryz.prog Tryz.lays169_ren := {
  mixed := by kernel_rfl
  f169 := Tryz.func167.trans (congrArg some (by kernel_rfl))
  t0 := Tryz.underlying0
  a0 := Tryz.isAgg0
  z0 := Tryz.sizeOf0
  v0 := Tryz.zeroValue0
  t3 := Tryz.underlying3
  a3 := Tryz.isAgg3
  z3 := Tryz.sizeOf3
  v3 := Tryz.zeroValue3
  t9 := Tryz.underlying9
  a9 := Tryz.isAgg9
  z9 := Tryz.sizeOf9
  v9 := Tryz.zeroValue9
  t37 := Tryz.underlying51
  a37 := Tryz.isAgg51
  z37 := Tryz.sizeOf51
  v37 := Tryz.zeroValue51
  t70 := Tryz.underlying165
  a70 := Tryz.isAgg165
  z70 := Tryz.sizeOf165
  v70 := Tryz.zeroValue165
  t72 := Tryz.underlying167
  a72 := Tryz.isAgg167
  z72 := Tryz.sizeOf167
  v72 := Tryz.zeroValue167
  t127 := Tryz.underlying199
  a127 := Tryz.isAgg199
  z127 := Tryz.sizeOf199
  v127 := Tryz.zeroValue199 }
theorem Tryz.Builder_Extra_169 : Builder.Extra Tryz.prog Tryz.lays169_ren := {
  sizeBuilder := by kernel_rfl
  liesBuilder := by kernel_rfl
  t5 := Tryz.underlying5
  a5 := Tryz.isAgg5
  z5 := Tryz.sizeOf5
  v5 := Tryz.zeroValue5
  infoByte := by kernel_rfl
  cellsByte := by kernel_rfl
  sizeByte := by kernel_rfl
  neB5 := by decide }
def Tryz.lays231_ren : Go.Shelf.Ren := ⟨fun | 231 => 159 | n => n, fun | 9 => 9 | 5 => 5 | 3 => 3 | 4 => 4 | n => n, fun | n => n⟩
theorem Tryz.lays231 : Go.Proofs.Lays.n231 Tryz.prog Tryz.lays231_ren := {
  mixed := by kernel_rfl
  f231 := Tryz.func159.trans (congrArg some (by kernel_rfl))
  t3 := Tryz.underlying3
  a3 := Tryz.isAgg3
  z3 := Tryz.sizeOf3
  v3 := Tryz.zeroValue3
  t4 := Tryz.underlying4
  a4 := Tryz.isAgg4
  z4 := Tryz.sizeOf4
  v4 := Tryz.zeroValue4
  t5 := Tryz.underlying5
  a5 := Tryz.isAgg5
  z5 := Tryz.sizeOf5
  v5 := Tryz.zeroValue5
  t9 := Tryz.underlying9
  a9 := Tryz.isAgg9
  z9 := Tryz.sizeOf9
  v9 := Tryz.zeroValue9 }
open Go.RowKit in
theorem Tryz.strings_trimLeftByte (s : ByteArray) (c : UInt8) (w : World) :
    Calls Tryz.prog 159 #[.string s, .int .u8 c.toNat] w fun e w' => e = .returned (.string ⟨(Lib.trimLeftB s.data.toList c).toArray⟩) ∧ w' = w := Any.strings_trimLeftByte Tryz.lays231 s c w
def Tryz.lays134_ren : Go.Shelf.Ren := ⟨fun | 134 => 242 | 129 => 244 | n => n, fun | 53 => 211 | 3 => 3 | 4 => 4 | 46 => 195 | 5 => 5 | 9 => 9 | n => n, fun | n => n⟩
theorem Tryz.lays134 : Go.Proofs.Lays.n134 Tryz.prog Tryz.lays134_ren := {
  mixed := by kernel_rfl
  f129 := Tryz.func244.trans (congrArg some (by kernel_rfl))
  f134 := Tryz.func242.trans (congrArg some (by kernel_rfl))
  t3 := Tryz.underlying3
  a3 := Tryz.isAgg3
  z3 := Tryz.sizeOf3
  v3 := Tryz.zeroValue3
  t4 := Tryz.underlying4
  a4 := Tryz.isAgg4
  z4 := Tryz.sizeOf4
  v4 := Tryz.zeroValue4
  t5 := Tryz.underlying5
  a5 := Tryz.isAgg5
  z5 := Tryz.sizeOf5
  v5 := Tryz.zeroValue5
  t9 := Tryz.underlying9
  a9 := Tryz.isAgg9
  z9 := Tryz.sizeOf9
  v9 := Tryz.zeroValue9
  t46 := Tryz.underlying195
  a46 := Tryz.isAgg195
  z46 := Tryz.sizeOf195
  v46 := Tryz.zeroValue195
  t53 := Tryz.underlying211
  a53 := Tryz.isAgg211
  z53 := Tryz.sizeOf211
  v53 := Tryz.zeroValue211 }
theorem Tryz.bits_LeadingZeros64 (x : Int) (w : World) (h0 : 0 ≤ x) (h1 : x ≤ 18446744073709551615) :
    Calls Tryz.prog 242 #[.int .u64 x] w fun e w' => e = .returned (.int .i64 (64 - (Lib.bitLen x.toNat : Int))) ∧ w' = w := Any.bits_LeadingZeros64 Tryz.lays134 x w h0 h1
def Tryz.lays103_ren : Go.Shelf.Ren := ⟨fun | 103 => 90 | 210 => 154 | 206 => 195 | n => n, fun | 9 => 9 | 4 => 4 | 24 => 109 | 3 => 3 | n => n, fun | n => n⟩
theorem Tryz.lays103 : Go.Proofs.Lays.n103 Tryz.prog Tryz.lays103_ren := {
  mixed := by kernel_rfl
  f103 := Tryz.func90.trans (congrArg some (by kernel_rfl))
  f206 := Tryz.func195.trans (congrArg some (by kernel_rfl))
  f210 := Tryz.func154.trans (congrArg some (by kernel_rfl))
  t3 := Tryz.underlying3
  a3 := Tryz.isAgg3
  z3 := Tryz.sizeOf3
  v3 := Tryz.zeroValue3
  t4 := Tryz.underlying4
  a4 := Tryz.isAgg4
  z4 := Tryz.sizeOf4
  v4 := Tryz.zeroValue4
  t9 := Tryz.underlying9
  a9 := Tryz.isAgg9
  z9 := Tryz.sizeOf9
  v9 := Tryz.zeroValue9
  t24 := Tryz.underlying109
  a24 := Tryz.isAgg109
  z24 := Tryz.sizeOf109
  v24 := Tryz.zeroValue109 }
open Go.RowKit in
theorem Tryz.strings_CutPrefix (s p : ByteArray) (w : World) :
    Calls Tryz.prog 90 #[.string s, .string p] w fun e w' => e = .returned (.tuple #[.string ⟨(Lib.trimPrefix s.data.toList p.data.toList).toArray⟩, .bool (Lib.hasPrefix s.data.toList p.data.toList)]) ∧ w' = w := Any.strings_CutPrefix Tryz.lays103 s p w
open Go.RowKit in
theorem Tryz.Builder_String_any_k (B b : Nat) (l : List UInt8) (w : World) (h : Lib.IsBuilderF 167 5 B b (Lib.byteCells l) w) (hBw : B ≤ w.heap.size) :
    Calls Tryz.prog 167 #[.pointer (some ⟨b, 0, none⟩)] w fun e w' => e = .returned (.string ⟨l.toArray⟩) ∧ (Lib.IsBuilderF 167 5 B b (Lib.byteCells l) w' ∧ Below B w w' ∧ Lib.OthersKept 5 (some b) w w') := Any.Builder_String_any_k Tryz.lays169 Tryz.Builder_Extra_169 B b l w h hBw
def Tryz.laysM171_ren : Go.Shelf.Ren := ⟨fun | 171 => 205 | 243 => 226 | 246 => 235 | 283 => 238 | 284 => 239 | 285 => 240 | 286 => 241 | 129 => 244 | 317 => 243 | 318 => 245 | 319 => 246 | 320 => 247 | 337 => 248 | 338 => 249 | n => n, fun | 3 => 3 | 9 => 9 | 2 => 2 | 4 => 4 | 171 => 236 | 0 => 0 | 53 => 211 | 37 => 51 | 5 => 5 | 173 => 239 | 212 => 242 | 51 => 208 | 20 => 20 | 213 => 243 | 46 => 195 | 232 => 246 | 233 => 247 | n => n, fun | 17 => 6 | 18 => 7 | 19 => 8 | n => n⟩
theorem Tryz.laysM171 : Go.Proofs.LaysM.n171 Tryz.prog Tryz.laysM171_ren := {
  mixed := by kernel_rfl
  f129 := Tryz.func244.trans (congrArg some (by kernel_rfl))
  f171 := Tryz.func205.trans (congrArg some (by kernel_rfl))
  f243 := Tryz.func226.trans (congrArg some (by kernel_rfl))
  f246 := Tryz.func235.trans (congrArg some (by kernel_rfl))
  f283 := Tryz.func238.trans (congrArg some (by kernel_rfl))
  f284 := Tryz.func239.trans (congrArg some (by kernel_rfl))
  f285 := Tryz.func240.trans (congrArg some (by kernel_rfl))
  f286 := Tryz.func241.trans (congrArg some (by kernel_rfl))
  f317 := Tryz.func243.trans (congrArg some (by kernel_rfl))
  f318 := Tryz.func245.trans (congrArg some (by kernel_rfl))
  f319 := Tryz.func246.trans (congrArg some (by kernel_rfl))
  f320 := Tryz.func247.trans (congrArg some (by kernel_rfl))
  f337 := Tryz.func248.trans (congrArg some (by kernel_rfl))
  f338 := Tryz.func249.trans (congrArg some (by kernel_rfl))
  t0 := Tryz.underlying0
  a0 := Tryz.isAgg0
  z0 := Tryz.sizeOf0
  v0 := Tryz.zeroValue0
  t2 := Tryz.underlying2
  a2 := Tryz.isAgg2
  z2 := Tryz.sizeOf2
  v2 := Tryz.zeroValue2
  t3 := Tryz.underlying3
  a3 := Tryz.isAgg3
  z3 := Tryz.sizeOf3
  v3 := Tryz.zeroValue3
  t4 := Tryz.underlying4
  a4 := Tryz.isAgg4
  z4 := Tryz.sizeOf4
  v4 := Tryz.zeroValue4
  t5 := Tryz.underlying5
  a5 := Tryz.isAgg5
  z5 := Tryz.sizeOf5
  v5 := Tryz.zeroValue5
  t9 := Tryz.underlying9
  a9 := Tryz.isAgg9
  z9 := Tryz.sizeOf9
  v9 := Tryz.zeroValue9
  t20 := Tryz.underlying20
  a20 := Tryz.isAgg20
  z20 := Tryz.sizeOf20
  v20 := Tryz.zeroValue20
  t37 := Tryz.underlying51
  a37 := Tryz.isAgg51
  z37 := Tryz.sizeOf51
  v37 := Tryz.zeroValue51
  t46 := Tryz.underlying195
  a46 := Tryz.isAgg195
  z46 := Tryz.sizeOf195
  v46 := Tryz.zeroValue195
  t51 := Tryz.underlying208
  a51 := Tryz.isAgg208
  z51 := Tryz.sizeOf208
  v51 := Tryz.zeroValue208
  t53 := Tryz.underlying211
  a53 := Tryz.isAgg211
  z53 := Tryz.sizeOf211
  v53 := Tryz.zeroValue211
  t171 := Tryz.underlying236
  a171 := Tryz.isAgg236
  z171 := Tryz.sizeOf236
  v171 := Tryz.zeroValue236
  t173 := Tryz.underlying239
  a173 := Tryz.isAgg239
  z173 := Tryz.sizeOf239
  v173 := Tryz.zeroValue239
  t212 := Tryz.underlying242
  a212 := Tryz.isAgg242
  z212 := Tryz.sizeOf242
  v212 := Tryz.zeroValue242
  t213 := Tryz.underlying243
  a213 := Tryz.isAgg243
  z213 := Tryz.sizeOf243
  t232 := Tryz.underlying246
  a232 := Tryz.isAgg246
  z232 := Tryz.sizeOf246
  v232 := Tryz.zeroValue246
  t233 := Tryz.underlying247
  a233 := Tryz.isAgg247
  z233 := Tryz.sizeOf247
  v233 := Tryz.zeroValue247
  g17 := by kernel_rfl
  g18 := by kernel_rfl
  g19 := by kernel_rfl
  i0 := by kernel_rfl
  i2 := by kernel_rfl
  i3 := by kernel_rfl
  i4 := by kernel_rfl
  i5 := by kernel_rfl
  i9 := by kernel_rfl
  i20 := by kernel_rfl
  i37 := by kernel_rfl
  i46 := by kernel_rfl
  i51 := by kernel_rfl
  i53 := by kernel_rfl
  i171 := by kernel_rfl
  i173 := by kernel_rfl
  i212 := by kernel_rfl
  i232 := by kernel_rfl
  i233 := by kernel_rfl
  m17 := by kernel_rfl
  m18 := by kernel_rfl
  m19 := by kernel_rfl }
open Go.RowKit Go.Sort Go.Lib in
theorem Tryz.strconv_Itoa (n : Int) (h0 : -9223372036854775808 ≤ n) (h1 : n ≤ 9223372036854775807) (w : World) (htab : Lib.TabIs Tryz.prog w "internal/strconv.uint64pow10" .u64 Lib.pow10Tab) :
    Calls Tryz.prog 205 #[.int .i64 n] w fun e w' => e = .returned (.string ⟨(Lib.itoa n).toArray⟩) ∧ ∃ k os, w' = grow (w.drewN k) os := Any.strconv_Itoa Tryz.laysM171 n h0 h1 w htab
def Tryz.lays219_ren : Go.Shelf.Ren := ⟨fun | 219 => 196 | 217 => 217 | 225 => 218 | 224 => 219 | 267 => 220 | 266 => 230 | 314 => 231 | n => n, fun | 9 => 9 | 3 => 3 | 4 => 4 | 5 => 5 | 46 => 195 | 146 => 209 | 51 => 208 | n => n, fun | 1 => 1 | n => n⟩
theorem Tryz.lays219 : Go.Proofs.Lays.n219 Tryz.prog Tryz.lays219_ren := {
  mixed := by kernel_rfl
  f217 := Tryz.func217.trans (congrArg some (by kernel_rfl))
  f219 := Tryz.func196.trans (congrArg some (by kernel_rfl))
  f224 := Tryz.func219.trans (congrArg some (by kernel_rfl))
  f225 := Tryz.func218.trans (congrArg some (by kernel_rfl))
  f266 := Tryz.func230.trans (congrArg some (by kernel_rfl))
  f267 := Tryz.func220.trans (congrArg some (by kernel_rfl))
  f314 := Tryz.func231.trans (congrArg some (by kernel_rfl))
  t3 := Tryz.underlying3
  a3 := Tryz.isAgg3
  z3 := Tryz.sizeOf3
  v3 := Tryz.zeroValue3
  t4 := Tryz.underlying4
  a4 := Tryz.isAgg4
  z4 := Tryz.sizeOf4
  v4 := Tryz.zeroValue4
  t5 := Tryz.underlying5
  a5 := Tryz.isAgg5
  z5 := Tryz.sizeOf5
  v5 := Tryz.zeroValue5
  t9 := Tryz.underlying9
  a9 := Tryz.isAgg9
  z9 := Tryz.sizeOf9
  v9 := Tryz.zeroValue9
  t46 := Tryz.underlying195
  a46 := Tryz.isAgg195
  z46 := Tryz.sizeOf195
  v46 := Tryz.zeroValue195
  t51 := Tryz.underlying208
  a51 := Tryz.isAgg208
  z51 := Tryz.sizeOf208
  v51 := Tryz.zeroValue208
  t146 := Tryz.underlying209
  a146 := Tryz.isAgg209
  z146 := Tryz.sizeOf209
  v146 := Tryz.zeroValue209
  g1 := by kernel_rfl }
open Go.RowKit Go.Lib in
theorem Tryz.stringslite_Index_one (s : ByteArray) (c : UInt8) (w : World) :
    Calls Tryz.prog 196 #[.string s, .string ⟨#[c]⟩] w fun e w' => e = .returned (.int .i64 (Lib.indexByte s.data.toList c)) ∧ w' = w := Any.stringslite_Index_one Tryz.lays219 s c w
def Tryz.lays264_ren : Go.Shelf.Ren := ⟨fun | 264 => 224 | n => n, fun | 53 => 211 | 46 => 195 | n => n, fun | n => n⟩
theorem Tryz.lays264 : Go.Proofs.Lays.n264 Tryz.prog Tryz.lays264_ren := {
  mixed := by kernel_rfl
  f264 := Tryz.func224.trans (congrArg some (by kernel_rfl))
  t46 := Tryz.underlying195
  a46 := Tryz.isAgg195
  z46 := Tryz.sizeOf195
  v46 := Tryz.zeroValue195
  t53 := Tryz.underlying211
  a53 := Tryz.isAgg211
  z53 := Tryz.sizeOf211
  v53 := Tryz.zeroValue211 }
open Go.RowKit Go.Lib in
theorem Tryz.bits_Mul64 (x y : Nat) (hx : x < 18446744073709551616) (hy : y < 18446744073709551616) (w : World) :
    Calls Tryz.prog 224 #[.int .u64 x, .int .u64 y] w fun e w' => e = .returned (.tuple #[.int .u64 ((x * y / 18446744073709551616 : Nat) : Int), .int .u64 ((x * y % 18446744073709551616 : Nat) : Int)]) ∧ w' = w := Any.bits_Mul64 Tryz.lays264 x y hx hy w
def Tryz.lays105_ren : Go.Shelf.Ren := ⟨fun | 105 => 163 | 212 => 201 | 99 => 202 | 165 => 203 | 166 => 166 | 170 => 204 | 169 => 167 | 263 => 223 | 264 => 224 | 206 => 195 | 240 => 206 | 241 => 225 | 276 => 227 | 277 => 234 | n => n, fun | 9 => 9 | 3 => 3 | 4 => 4 | 20 => 20 | 0 => 0 | 46 => 195 | 109 => 196 | 5 => 5 | 72 => 167 | 76 => 170 | 51 => 208 | 146 => 209 | 53 => 211 | 148 => 212 | 70 => 165 | 37 => 51 | 75 => 169 | 127 => 199 | 164 => 214 | 80 => 172 | n => n, fun | n => n⟩
theorem Tryz.lays105 : Go.Proofs.Lays.n105 Tryz.prog Tryz.lays105_ren := {
  mixed := by kernel_rfl
  f99 := Tryz.func202.trans (congrArg some (by kernel_rfl))
  f105 := Tryz.func163.trans (congrArg some (by kernel_rfl))
  f165 := Tryz.func203.trans (congrArg some (by kernel_rfl))
  f166 := Tryz.func166.trans (congrArg some (by kernel_rfl))
  f169 := Tryz.func167.trans (congrArg some (by kernel_rfl))
  f170 := Tryz.func204.trans (congrArg some (by kernel_rfl))
  f206 := Tryz.func195.trans (congrArg some (by kernel_rfl))
  f212 := Tryz.func201.trans (congrArg some (by kernel_rfl))
  f240 := Tryz.func206.trans (congrArg some (by kernel_rfl))
  f241 := Tryz.func225.trans (congrArg some (by kernel_rfl))
  f263 := Tryz.func223.trans (congrArg some (by kernel_rfl))
  f264 := Tryz.func224.trans (congrArg some (by kernel_rfl))
  f276 := Tryz.func227.trans (congrArg some (by kernel_rfl))
  f277 := Tryz.func234.trans (congrArg some (by kernel_rfl))
  t0 := Tryz.underlying0
  a0 := Tryz.isAgg0
  z0 := Tryz.sizeOf0
  v0 := Tryz.zeroValue0
  t3 := Tryz.underlying3
  a3 := Tryz.isAgg3
  z3 := Tryz.sizeOf3
  v3 := Tryz.zeroValue3
  t4 := Tryz.underlying4
  a4 := Tryz.isAgg4
  z4 := Tryz.sizeOf4
  v4 := Tryz.zeroValue4
  t5 := Tryz.underlying5
  a5 := Tryz.isAgg5
  z5 := Tryz.sizeOf5
  v5 := Tryz.zeroValue5
  t9 := Tryz.underlying9
  a9 := Tryz.isAgg9
  z9 := Tryz.sizeOf9
  v9 := Tryz.zeroValue9
  t20 := Tryz.underlying20
  a20 := Tryz.isAgg20
  z20 := Tryz.sizeOf20
  v20 := Tryz.zeroValue20
  t37 := Tryz.underlying51
  a37 := Tryz.isAgg51
  z37 := Tryz.sizeOf51
  v37 := Tryz.zeroValue51
  t46 := Tryz.underlying195
  a46 := Tryz.isAgg195
  z46 := Tryz.sizeOf195
  v46 := Tryz.zeroValue195
  t51 := Tryz.underlying208
  a51 := Tryz.isAgg208
  z51 := Tryz.sizeOf208
  v51 := Tryz.zeroValue208
  t53 := Tryz.underlying211
  a53 := Tryz.isAgg211
  z53 := Tryz.sizeOf211
  v53 := Tryz.zeroValue211
  t70 := Tryz.underlying165
  a70 := Tryz.isAgg165
  z70 := Tryz.sizeOf165
  v70 := Tryz.zeroValue165
  t72 := Tryz.underlying167
  a72 := Tryz.isAgg167
  z72 := Tryz.sizeOf167
  v72 := Tryz.zeroValue167
  t75 := Tryz.underlying169
  a75 := Tryz.isAgg169
  z75 := Tryz.sizeOf169
  v75 := Tryz.zeroValue169
  t76 := Tryz.underlying170
  a76 := Tryz.isAgg170
  z76 := Tryz.sizeOf170
  v76 := Tryz.zeroValue170
  t109 := Tryz.underlying196
  a109 := Tryz.isAgg196
  z109 := Tryz.sizeOf196
  v109 := Tryz.zeroValue196
  t127 := Tryz.underlying199
  a127 := Tryz.isAgg199
  z127 := Tryz.sizeOf199
  v127 := Tryz.zeroValue199
  t146 := Tryz.underlying209
  a146 := Tryz.isAgg209
  z146 := Tryz.sizeOf209
  v146 := Tryz.zeroValue209
  t148 := Tryz.underlying212
  a148 := Tryz.isAgg212
  z148 := Tryz.sizeOf212
  v148 := Tryz.zeroValue212
  t164 := Tryz.underlying214
  a164 := Tryz.isAgg214
  z164 := Tryz.sizeOf214
  v164 := Tryz.zeroValue214 }
theorem Tryz.Builder_Extra_105 : Builder.Extra Tryz.prog Tryz.lays105_ren := {
  sizeBuilder := by kernel_rfl
  liesBuilder := by kernel_rfl
  t5 := Tryz.underlying5
  a5 := Tryz.isAgg5
  z5 := Tryz.sizeOf5
  v5 := Tryz.zeroValue5
  infoByte := by kernel_rfl
  cellsByte := by kernel_rfl
  sizeByte := by kernel_rfl
  neB5 := by decide }
open Go.RowKit Go.Lib in
theorem Tryz.strings_Repeat (s : ByteArray) (c : Nat) (w : World) (hc : c ≤ 9223372036854775807) (hlen : s.size * c ≤ 140737488355328) :
    Calls Tryz.prog 163 #[.string s, .int .i64 c] w fun e w' => e = .returned (.string ⟨(Lib.repeatL s.data.toList c).toArray⟩) ∧ Below w.heap.size w w' := Any.strings_Repeat Tryz.lays105 Tryz.Builder_Extra_105 s c w hc hlen
end Go.Proofs

namespace Go.Proofs.YthfkdofnoomhaaaGreatDoor
open Go.RowKit

/-- the decimal numeral of an int -/
def numB (n : Int) : ByteArray := ⟨(Lib.itoa n).toArray⟩
/-- one byte as a text -/
def byteB (c : Int) : ByteArray := ⟨#[UInt8.ofNat c.toNat]⟩

/-- string([]byte{c}), the cell known -/
theorem conv_cell (W : World) (b : Nat) (c : Int) (h : W.cell? ⟨b, 0, none⟩ = some (.int .u8 c)) : (convert 51 9 (.slice (some ⟨b, 0, none⟩) 1 1)).run Tryz.prog W = .ok (.string (byteB c)) W := by
  rw [run_convert_bytes_string _ 51 9 5 _ _ _ Tryz.underlying51 Tryz.underlying5 Tryz.underlying9]
  rw [run_bytesToString _ _ 1 1 [c] ?_]
  · rfl
  · simp [loadCells, loadCellsFrom, go_sem, Addr.add, h]

theorem dec_small (u : Nat) (h : u < 10) : Lib.decDigits u = [UInt8.ofNat (48 + u)] := by rw [Lib.decDigits, dif_pos h]
theorem dec_big (u : Nat) (h : ¬ u < 10) : Lib.decDigits u = Lib.decDigits (u / 10) ++ [UInt8.ofNat (48 + u % 10)] := by rw [Lib.decDigits, dif_neg h]
theorem num_neg_small (n : Int) (h : n < 0) (h1 : -10 < n) : (⟨#[45]⟩ : ByteArray) ++ byteB (48 - n) = numB n := by
  unfold numB byteB Lib.itoa
  rw [if_pos h, dec_small _ (by omega), show (48 - n).toNat = 48 + n.natAbs from by omega]
  apply ByteArray.ext
  simp
theorem num_neg_big (n : Int) (h : n ≤ -10) : numB (n.tdiv 10) ++ byteB (48 - n.tmod 10) = numB n := by
  have hq : n.tdiv 10 = -((n.natAbs / 10 : Nat) : Int) := by
    obtain ⟨m, rfl⟩ : ∃ m : Nat, n = -(m : Int) := ⟨n.natAbs, by omega⟩
    rw [Int.neg_tdiv, Int.natAbs_neg, Int.natAbs_natCast]
    rfl
  have hr : n.tmod 10 = -((n.natAbs % 10 : Nat) : Int) := by
    obtain ⟨m, rfl⟩ : ∃ m : Nat, n = -(m : Int) := ⟨n.natAbs, by omega⟩
    rw [Int.neg_tmod, Int.natAbs_neg, Int.natAbs_natCast]
    rfl
  unfold numB byteB Lib.itoa
  rw [hq, hr, if_pos (by omega), if_pos (by omega), dec_big n.natAbs (by omega), show (48 - -((n.natAbs % 10 : Nat) : Int)).toNat = 48 + n.natAbs % 10 from by omega, show (-((n.natAbs / 10 : Nat) : Int)).natAbs = n.natAbs / 10 from by omega]
  apply ByteArray.ext
  simp
theorem numB_size (n : Int) (k : Nat) (h : n.natAbs < 10 ^ (k + 1)) : (numB n).size ≤ k + 2 := by
  have hd : ∀ (k u : Nat), u < 10 ^ (k + 1) → (Lib.decDigits u).length ≤ k + 1 := by
    intro k
    induction k with
    | zero => intro u hu; rw [dec_small u (by simpa using hu)]; simp
    | succ k ih =>
      intro u hu
      by_cases hs : u < 10
      · rw [dec_small u hs]; simp
      · rw [dec_big u hs, List.length_append]
        have := ih (u / 10) (by rw [Nat.pow_succ] at hu; omega)
        simp; omega
  have e : (numB n).size = (Lib.itoa n).length := rfl
  rw [e]
  unfold Lib.itoa
  split
  · have := hd k n.natAbs h; simp; omega
  · have := hd k n.toNat (by omega); omega

theorem quo_small (n : Int) (h : n < 0) (h1 : -10 < n) : (n.tdiv 10 == 0) = true := by
  rw [beq_iff_eq]
  obtain ⟨m, rfl⟩ : ∃ m : Nat, n = -(m : Int) := ⟨n.natAbs, by omega⟩
  rw [Int.neg_tdiv, Int.tdiv_eq_zero_of_lt (by omega) (by omega)]
  rfl
theorem quo_rem (n : Int) (h : n ≤ 0) : n.tdiv 10 * 10 + n.tmod 10 = n ∧ -9 ≤ n.tmod 10 ∧ n.tmod 10 ≤ 0 := by
  obtain ⟨m, rfl⟩ : ∃ m : Nat, n = -(m : Int) := ⟨n.natAbs, by omega⟩
  have hq : (-(m : Int)).tdiv 10 = -((m / 10 : Nat) : Int) := by rw [Int.neg_tdiv]; rfl
  have hr : (-(m : Int)).tmod 10 = -((m % 10 : Nat) : Int) := by rw [Int.neg_tmod]; rfl
  rw [hq, hr]
  omega


/-- the table that the library reads is at hand -/
def Tab (w : World) : Prop := Lib.TabIs Tryz.prog w "internal/strconv.uint64pow10" .u64 Lib.pow10Tab
theorem powGlobal : Tryz.prog.globalNamed "internal/strconv.uint64pow10" = some 6 := by kernel_rfl
theorem Tab.lt {w : World} (h : Tab w) : 6 < w.heap.size := by
  unfold Tab Lib.TabIs World.var? at h
  rw [powGlobal] at h
  simp only [Option.bind_some] at h
  split at h
  · rename_i hh; exact (Array.getElem?_eq_some_iff.1 hh).1
  · cases h
theorem Tab.below {w w' : World} (h : Tab w) (hb : Below w.heap.size w w') : Tab w' := by
  have hl := h.lt
  unfold Tab Lib.TabIs World.var? at h ⊢
  rw [powGlobal] at h ⊢
  simp only [Option.bind_some] at h ⊢
  rw [hb.block _ hl]
  exact h
theorem Tab.drewN {w : World} (h : Tab w) (n : Nat) : Tab (w.drewN n) := h

theorem below_grow (w : World) (k : Nat) (os : Array Obj) : Below w.heap.size w (Sort.grow (w.drewN k) os) :=
  ⟨rfl, rfl, rfl, by show w.heap.size ≤ (w.heap ++ os).size; simp, fun i hi => by show (w.heap ++ os)[i]? = _; rw [Array.getElem?_append_left hi]⟩

theorem itoa_any (n : Int) (w : World) (h0 : -9223372036854775808 ≤ n) (h1 : n ≤ 9223372036854775807) (ht : Tab w) :
    Calls Tryz.prog 205 #[.int .i64 n] w fun e w' => e = .returned (.string (numB n)) ∧ Below w.heap.size w w' := by
  refine (Tryz.strconv_Itoa n h0 h1 w ht).mono ?_
  rintro e w' ⟨rfl, k, os, rfl⟩
  exact ⟨rfl, below_grow w k os⟩

set_option maxHeartbeats 400000 in
set_option maxRecDepth 100000 in
theorem implIntText_any (n : Int) (w : World) (h0 : -9223372036854775808 ≤ n) (h1 : n ≤ 9223372036854775807) (ht : Tab w) :
    Calls Tryz.prog 164 #[.int .i64 n] w fun e w' => e = .returned (.string (numB n)) ∧ Below w.heap.size w w' := by
  go_enter Tryz.func164, Tryz.ntmps164
  go_wp2_with fail
  refine (itoa_any n _ h0 h1 ht).mono ?_
  rintro e w1 ⟨rfl, hb⟩
  go_wp2
  go_ret
  exact ⟨rfl, hb⟩
end Go.Proofs.YthfkdofnoomhaaaGreatDoor
