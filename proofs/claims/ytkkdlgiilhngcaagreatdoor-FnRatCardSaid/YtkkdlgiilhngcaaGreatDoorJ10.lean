/-
  Plain facts behind the law FnRat: fractions of few limbs, reckoned as rational numbers, and read back from their texts.
  Chapter 5 of package impl: the signed number of an int.
  Chapter 6 of package impl: RatInt, RatZero, RatNeg, RatCmp and RatSign.
-/
import Derived.Deep.DeepCutAuto
import Derived.Deep.LoopGhost
import Derived.Test.YtkkdlgiilhngcaaGreatDoorJ9
namespace Go.Proofs.YtkkdlgiilhngcaaGreatDoor
open Go.RowKit

/-- the rational number that a fraction stands for -/
def ratV (q : QI) : Rat := (numQ q : Rat) / ((denQ q : Int) : Rat)
/-- a right fraction whose parts are short -/
structure Bd (q : QI) (m : Nat) : Prop where
  ok : okQ q = true
  num : ((numQ q).natAbs : Int) < bp m
  den : (denQ q : Int) < bp m
theorem Bd.pos {q : QI} {m : Nat} (h : Bd q m) : (0 : Int) < (denQ q : Int) := by have := denQ_pos h.ok; omega
theorem Bd.mono {q : QI} {m n : Nat} (h : Bd q m) (hm : m ≤ n) : Bd q n := ⟨h.ok, Int.lt_of_lt_of_le h.num (bp_mono hm), Int.lt_of_lt_of_le h.den (bp_mono hm)⟩
theorem rat_ne {d : Int} (h : 0 < d) : (d : Rat) ≠ 0 := by
  have : d ≠ 0 := by omega
  exact_mod_cast this
theorem ratV_of {q : QI} {N D : Int} (hq : okQ q = true) (hD : 0 < D) (h : numQ q * D = N * denQ q) : ratV q = (N : Rat) / (D : Rat) := by
  have h1 : (0 : Int) < (denQ q : Int) := by have := denQ_pos hq; omega
  have n1 := rat_ne h1
  have n2 := rat_ne hD
  have h' : (numQ q : Rat) * (D : Rat) = (N : Rat) * ((denQ q : Int) : Rat) := by exact_mod_cast h
  unfold ratV
  grind
theorem low_is (n : Bool) (a b : Nat) (hb : b ≠ 0) (ha : (a : Int) < bp 18) (hb2 : (b : Int) < bp 18) :
    (lowQ n a b).2 = true ∧ numQ (lowQ n a b).1 * b = (if n = true then -(a : Int) else a) * denQ (lowQ n a b).1 ∧ (numQ (lowQ n a b).1).natAbs ≤ a ∧ denQ (lowQ n a b).1 ≤ b := by
  have hg : 0 < Nat.gcd a b := Nat.gcd_pos_of_pos_right _ (by omega)
  obtain ⟨a', ea⟩ := Nat.gcd_dvd_left a b
  obtain ⟨b', eb⟩ := Nat.gcd_dvd_right a b
  have qa : a / Nat.gcd a b = a' := by rw [Nat.div_eq_of_eq_mul_right hg ea]
  have qb : b / Nat.gcd a b = b' := by rw [Nat.div_eq_of_eq_mul_right hg eb]
  have la : a' ≤ a := by rw [← qa]; exact Nat.div_le_self ..
  have lb : b' ≤ b := by rw [← qb]; exact Nat.div_le_self ..
  have l1 : (limbs a').length ≤ 18 := limbs_length_le _ 18 (by omega)
  have l2 : (limbs b').length ≤ 18 := limbs_length_le _ 18 (by omega)
  have e : lowQ n a b = ((mkS n (limbs a'), limbs b'), true) := by
    unfold lowQ
    rw [qa, qb, if_pos ⟨hb, l1, l2⟩]
  have ev : numQ ((mkS n (limbs a'), limbs b') : QI) = if n = true then -(a' : Int) else a' := by
    show valS (mkS n (limbs a')) = _
    rw [mkS_limbs, ofZ_val]
    rw [show (if n = true then -(a' : Int) else a').natAbs = a' by split <;> omega]
    omega
  have ed : denQ ((mkS n (limbs a'), limbs b') : QI) = b' := by
    show (nval (limbs b')).toNat = b'
    rw [limbs_val, Int.toNat_natCast]
  rw [e]
  refine ⟨rfl, ?_, ?_, ?_⟩
  · rw [ev, ed]
    have key : (a' : Int) * b = a * b' := by
      have h1 : a' * b = a * b' := by
        have e1 : a * b' = (Nat.gcd a b * a') * b' := by rw [← ea]
        have e2 : a' * b = a' * (Nat.gcd a b * b') := by rw [← eb]
        rw [e1, e2]
        ac_rfl
      exact_mod_cast h1
    split
    · rw [Int.neg_mul, Int.neg_mul, key]
    · exact key
  · rw [ev]; split <;> omega
  · rw [ed]; exact lb
theorem low_bd {n : Bool} {a b m : Nat} (hb : b ≠ 0) (hm : m ≤ 18) (ha : (a : Int) < bp m) (hb2 : (b : Int) < bp m) :
    (lowQ n a b).2 = true ∧ Bd (lowQ n a b).1 m ∧ ratV (lowQ n a b).1 = ((if n = true then -(a : Int) else a : Int) : Rat) / ((b : Int) : Rat) := by
  have h18 := bp_mono hm
  obtain ⟨h1, h2, h3, h4⟩ := low_is n a b hb (by omega) (by omega)
  have ok := lowQ_ok n a b h1
  exact ⟨h1, ⟨ok, by omega, by omega⟩, ratV_of ok (by omega) h2⟩
theorem pair_eq {Q : QI × Bool} (h : Q.2 = true) : Q = (Q.1, true) := by rw [← h]
theorem abs_top {q : QI} (h : okQ q = true) : topN q = (numQ q).natAbs := by
  have := (parts_of h).top
  rw [this]
  split <;> omega
theorem mul_lt {a b : Nat} {i j : Nat} (ha : (a : Int) < bp i) (hb : (b : Int) < bp j) : ((a * b : Nat) : Int) < bp (i + j) := by
  rw [bp_add, Int.natCast_mul]
  have p := bp_pos i
  have q := bp_pos j
  have h1 : (a : Int) * b ≤ (bp i - 1) * b := Int.mul_le_mul_of_nonneg_right (by omega) (by omega)
  have h2 : (bp i - 1) * (b : Int) ≤ (bp i - 1) * (bp j - 1) := Int.mul_le_mul_of_nonneg_left (by omega) (by omega)
  have h3 : (bp i - 1) * (bp j - 1) = bp i * bp j - bp i - bp j + 1 := by grind
  omega
theorem bp_next (m : Nat) : bp m + bp m ≤ bp (m + 1) := by
  have e : bp (m + 1) = 1000000000 * bp m := rfl
  have p := bp_pos m
  omega
theorem add_bd {r s : QI} {i k : Nat} (hr : Bd r i) (hs : Bd s k) (h : i + k + 1 ≤ 18) : (addQ r s).2 = true ∧ Bd (addQ r s).1 (i + k + 1) ∧ ratV (addQ r s).1 = ratV r + ratV s := by
  have e : addQ r s = lowQ (decide (numQ r * denQ s + numQ s * denQ r < 0)) (numQ r * denQ s + numQ s * denQ r).natAbs (denQ r * denQ s) := by unfold addQ; rw [if_pos ⟨hr.ok, hs.ok⟩]
  have p1 := hr.pos
  have p2 := hs.pos
  have b1 := mul_lt hr.num hs.den
  have b2 := mul_lt hs.num hr.den
  rw [Nat.add_comm k i] at b2
  have b3 := mul_lt hr.den hs.den
  have n1 := bp_next (i + k)
  have p0 := bp_pos (i + k)
  have ba : ((numQ r * denQ s + numQ s * denQ r).natAbs : Int) < bp (i + k + 1) := by
    have h1 : (numQ r * (denQ s : Int)).natAbs = (numQ r).natAbs * denQ s := by rw [Int.natAbs_mul, Int.natAbs_natCast]
    have h2 : (numQ s * (denQ r : Int)).natAbs = (numQ s).natAbs * denQ r := by rw [Int.natAbs_mul, Int.natAbs_natCast]
    omega
  have hd : denQ r * denQ s ≠ 0 := Nat.mul_ne_zero (by omega) (by omega)
  obtain ⟨h1, h2, h3⟩ := low_bd (n := decide (numQ r * denQ s + numQ s * denQ r < 0)) hd h ba (by omega)
  rw [e]
  refine ⟨h1, h2, h3.trans ?_⟩
  have hz : (if decide (numQ r * (denQ s : Int) + numQ s * (denQ r : Int) < 0) = true then -((numQ r * (denQ s : Int) + numQ s * (denQ r : Int)).natAbs : Int) else ((numQ r * (denQ s : Int) + numQ s * (denQ r : Int)).natAbs : Int)) = numQ r * (denQ s : Int) + numQ s * (denQ r : Int) := by
    generalize numQ r * (denQ s : Int) + numQ s * (denQ r : Int) = z
    by_cases hz : z < 0
    · rw [decide_eq_true hz, if_pos rfl]; omega
    · rw [decide_eq_false hz, if_neg (by decide)]; omega
  rw [hz]
  have n1 := rat_ne p1
  have n2 := rat_ne p2
  unfold ratV
  rw [Int.natCast_mul]
  simp only [Rat.intCast_add, Rat.intCast_mul]
  grind
theorem sign_mul (x y : Bool) (X Y : Int) : (if (x != y) = true then -(X * Y) else X * Y) = (if x = true then -X else X) * (if y = true then -Y else Y) := by
  cases x <;> cases y <;> simp [Int.neg_mul, Int.mul_neg]
theorem mul_bd {r s : QI} {i k : Nat} (hr : Bd r i) (hs : Bd s k) (h : i + k ≤ 18) : (mulQ r s).2 = true ∧ Bd (mulQ r s).1 (i + k) ∧ ratV (mulQ r s).1 = ratV r * ratV s := by
  have e : mulQ r s = lowQ (r.1.1 != s.1.1) (topN r * topN s) (denQ r * denQ s) := by unfold mulQ topN; rw [if_pos ⟨hr.ok, hs.ok⟩]
  have p1 := hr.pos
  have p2 := hs.pos
  have t1 := abs_top hr.ok
  have t2 := abs_top hs.ok
  have b1 := mul_lt hr.num hs.num
  rw [← t1, ← t2] at b1
  have hd : denQ r * denQ s ≠ 0 := Nat.mul_ne_zero (by omega) (by omega)
  obtain ⟨h1, h2, h3⟩ := low_bd (n := r.1.1 != s.1.1) hd h b1 (mul_lt hr.den hs.den)
  rw [e]
  refine ⟨h1, h2, h3.trans ?_⟩
  have n1 := rat_ne p1
  have n2 := rat_ne p2
  rw [Int.natCast_mul, sign_mul, ← (parts_of hr.ok).top, ← (parts_of hs.ok).top, Int.natCast_mul]
  unfold ratV
  simp only [Rat.intCast_mul]
  grind
theorem div_bd {r s : QI} {i k : Nat} (hr : Bd r i) (hs : Bd s k) (h : i + k ≤ 18) (h0 : numQ s ≠ 0) : (divQ r s).2 = true ∧ Bd (divQ r s).1 (i + k) ∧ ratV (divQ r s).1 * ratV s = ratV r := by
  have e : divQ r s = lowQ (r.1.1 != s.1.1) (topN r * denQ s) (denQ r * topN s) := by unfold divQ topN; rw [if_pos ⟨hr.ok, hs.ok⟩]
  have p1 := hr.pos
  have p2 := hs.pos
  have t1 := abs_top hr.ok
  have t2 := abs_top hs.ok
  have b1 := mul_lt hr.num hs.den
  rw [← t1] at b1
  have b2 := mul_lt hr.den hs.num
  rw [← t2] at b2
  have hd : denQ r * topN s ≠ 0 := Nat.mul_ne_zero (by omega) (by omega)
  obtain ⟨h1, h2, h3⟩ := low_bd (n := r.1.1 != s.1.1) hd h b1 b2
  rw [e]
  refine ⟨h1, h2, ?_⟩
  have n1 := rat_ne p1
  have n2 := rat_ne p2
  have n3 := rat_ne (show (0 : Int) < (topN s : Int) by omega)
  have q1 := (parts_of hr.ok).top
  have q2 := (parts_of hs.ok).top
  rw [h3, Int.natCast_mul, Int.natCast_mul]
  unfold ratV
  rw [q1, q2]
  generalize r.1.1 = x
  generalize s.1.1 = y
  cases x <;> cases y <;> simp only [bne_self_eq_false, Bool.false_bne, Bool.true_bne, Bool.not_false, if_true, if_false, Bool.false_eq_true, Rat.intCast_mul, Rat.intCast_neg] <;> grind
theorem negS_mag {x : SI} (h : okS x = true) : (negS x).2 = x.2 := by
  have hp := okS_parts h
  have hl := (natOk_parts hp.1).2.1
  have ha := valS_abs x hp.1
  have hx := natOk_limbs hp.1
  unfold negS
  rw [if_pos h]
  have e : (-valS x).natAbs = (nval x.2).toNat := by rw [Int.natAbs_neg]; omega
  unfold ofZ
  rw [e, ← hx, if_pos hl]
theorem neg_bd {s : QI} {k : Nat} (hs : Bd s k) : (negQ s).2 = true ∧ Bd (negQ s).1 k ∧ ratV (negQ s).1 = - ratV s := by
  have hp := okQ_parts hs.ok
  have hm := negS_mag hp.1
  have e : negQ s = ((negS s.1, s.2), true) := by unfold negQ; rw [if_pos hs.ok]
  have ev : numQ ((negS s.1, s.2) : QI) = - numQ s := by
    have hl : (limbs (-valS s.1).natAbs).length ≤ 50 := by
      have := (natOk_parts (okS_parts hp.1).1).2.1
      have hx := natOk_limbs (okS_parts hp.1).1
      have ha := valS_abs s.1 (okS_parts hp.1).1
      rw [Int.natAbs_neg, show (valS s.1).natAbs = (nval s.1.2).toNat by omega, ← hx]
      exact this
    show valS (negS s.1) = - valS s.1
    unfold negS
    rw [if_pos hp.1, ofZ_val hl]
  have hok : okQ ((negS s.1, s.2) : QI) = true := by
    have hn : okS (negS s.1) = true := by unfold negS; rw [if_pos hp.1]; exact ofZ_ok _
    unfold okQ
    simp only
    rw [hn, hp.2.1, hm]
    simp only [Bool.true_and, decide_eq_true_eq]
    exact ⟨hp.2.2.1, hp.2.2.2.1, hp.2.2.2.2.1, hp.2.2.2.2.2⟩
  rw [e]
  refine ⟨rfl, ⟨hok, by rw [ev, Int.natAbs_neg]; exact hs.num, hs.den⟩, ?_⟩
  unfold ratV
  rw [ev, show denQ ((negS s.1, s.2) : QI) = denQ s from rfl]
  simp only [Rat.intCast_neg]
  grind
theorem sub_bd {r s : QI} {i k : Nat} (hr : Bd r i) (hs : Bd s k) (h : i + k + 1 ≤ 18) : (subQ r s).2 = true ∧ Bd (subQ r s).1 (i + k + 1) ∧ ratV (subQ r s).1 = ratV r - ratV s := by
  obtain ⟨n1, n2, n3⟩ := neg_bd hs
  have e : subQ r s = addQ r (negQ s).1 := by unfold subQ; rw [if_pos n1]
  obtain ⟨a1, a2, a3⟩ := add_bd hr n2 h
  rw [e]
  exact ⟨a1, a2, by rw [a3, n3]; grind⟩
theorem cross_of {r s : QI} {i k : Nat} (hr : Bd r i) (hs : Bd s k) (h : ratV r = ratV s) : numQ r * denQ s = numQ s * denQ r := by
  have n1 := rat_ne hr.pos
  have n2 := rat_ne hs.pos
  unfold ratV at h
  have h' : (numQ r : Rat) * ((denQ s : Int) : Rat) = (numQ s : Rat) * ((denQ r : Int) : Rat) := by grind
  exact_mod_cast h'
theorem cmp_same {r s : QI} {i k : Nat} (hr : Bd r i) (hs : Bd s k) (h : ratV r = ratV s) : cmpQ r s = 0 := by
  unfold cmpQ
  rw [if_pos ⟨hr.ok, hs.ok⟩, cross_of hr hs h, cmpI_self]
theorem cmpQ_turn {r s : QI} {i k : Nat} (hr : Bd r i) (hs : Bd s k) : cmpQ r s = -cmpQ s r := by
  unfold cmpQ
  rw [if_pos ⟨hr.ok, hs.ok⟩, if_pos ⟨hs.ok, hr.ok⟩, cmpI_turn]
theorem oneQ_parts : numQ oneQ = 0 ∧ denQ oneQ = 1 := ⟨rfl, rfl⟩
theorem signQ_of {r : QI} {i : Nat} (hr : Bd r i) : cmpQ r oneQ = cmpI (numQ r) 0 := by
  unfold cmpQ
  rw [if_pos ⟨hr.ok, oneQ_ok⟩, oneQ_parts.1, oneQ_parts.2, Int.zero_mul]
  simp
theorem cmpI_facts (X Y : Int) : (cmpI X Y = 0 ↔ X = Y) ∧ (cmpI X Y ≤ 0 ↔ X ≤ Y) ∧ (0 ≤ cmpI X Y ↔ Y ≤ X) := by
  unfold cmpI
  split
  · omega
  · split <;> omega
theorem order_of {r s x : QI} {i k m : Nat} (hr : Bd r i) (hs : Bd s k) (hx : Bd x m) (h : ratV x = ratV s - ratV r) : (cmpQ r s ≤ 0) ↔ (0 ≤ cmpQ x oneQ) := by
  rw [signQ_of hx, (cmpI_facts _ _).2.2]
  have e : cmpQ r s = cmpI (numQ r * denQ s) (numQ s * denQ r) := by unfold cmpQ; rw [if_pos ⟨hr.ok, hs.ok⟩]
  rw [e, (cmpI_facts _ _).2.1]
  have p1 := hr.pos
  have p2 := hs.pos
  have p3 := hx.pos
  have n1 := rat_ne p1
  have n2 := rat_ne p2
  have n3 := rat_ne p3
  have key : numQ x * ((denQ s : Int) * (denQ r : Int)) = (numQ s * (denQ r : Int) - numQ r * (denQ s : Int)) * (denQ x : Int) := by
    unfold ratV at h
    have h' : (numQ x : Rat) * (((denQ s : Int) : Rat) * ((denQ r : Int) : Rat)) = ((numQ s : Rat) * ((denQ r : Int) : Rat) - (numQ r : Rat) * ((denQ s : Int) : Rat)) * ((denQ x : Int) : Rat) := by grind
    exact_mod_cast h'
  have pd : 0 < (denQ s : Int) * (denQ r : Int) := Int.mul_pos p2 p1
  generalize numQ s * (denQ r : Int) = B at *
  generalize numQ r * (denQ s : Int) = A at *
  constructor
  · intro hh
    have h1 : 0 ≤ (B - A) * (denQ x : Int) := Int.mul_nonneg (by omega) (by omega)
    rw [← key] at h1
    exact Int.nonneg_of_mul_nonneg_left h1 pd
  · intro hh
    have h1 : 0 ≤ numQ x * ((denQ s : Int) * (denQ r : Int)) := Int.mul_nonneg hh (by omega)
    rw [key] at h1
    have := Int.nonneg_of_mul_nonneg_left h1 p3
    omega
/-! ### texts -/
theorem bd_len {q : QI} {m : Nat} (h : Bd q m) : q.1.2.length ≤ m ∧ q.2.length ≤ m := by
  have p := parts_of h.ok
  have t := abs_top h.ok
  have h1 := h.num
  constructor
  · rw [p.n]; exact limbs_length_le _ m (by omega)
  · rw [p.d]; exact limbs_length_le _ m h.den
theorem text_back_rat {r : QI} (h : Bd r 4) : readB (ratTextB r) = true ∧ trQ (ratTextB r) = r := by
  have hp := okQ_parts h.ok
  have hl := bd_len h
  have hs := str_back hp.1 hl.1
  have hd := parts_of h.ok
  have main : readQ (ratTextB r) = r ∧ siB (headB (ratTextB r)) = true ∧ decOk (tailB (ratTextB r)) = true := by
    by_cases h1 : denQ r = 1
    · have e : ratTextB r = intStrB r.1 := by unfold ratTextB; rw [if_pos h.ok, if_pos h1]
      have hn : slashAt (intStrB r.1) = -1 := slash_none fun m hm hc => by
        have := List.count_eq_zero.1 (intStr_slash r.1)
        refine this (List.mem_iff_getElem?.2 ⟨m, ?_⟩)
        rw [getD_some _ m hm, hc]
      have eh : headB (intStrB r.1) = intStrB r.1 := by unfold headB; rw [if_pos (by omega)]
      have et : tailB (intStrB r.1) = ⟨#[49]⟩ := by unfold tailB; rw [if_pos (by omega)]
      have e2 : r.2 = [1] := by rw [hd.d, h1, one_limbs]
      unfold readQ
      rw [e, eh, et, hs.1, hs.2, one_text.1, one_text.2, ← e2]
      exact ⟨rfl, rfl, rfl⟩
    · have e : ratTextB r = intStrB r.1 ++ slashS ++ natTextB r.2 := by unfold ratTextB; rw [if_pos h.ok, if_neg h1]
      obtain ⟨I, hI⟩ : ∃ I, intStrB r.1 = I := ⟨_, rfl⟩
      obtain ⟨D, hD⟩ : ∃ D, natTextB r.2 = D := ⟨_, rfl⟩
      have hcI : I.data.toList.count 47 = 0 := by rw [← hI]; exact intStr_slash _
      have el : (I ++ slashS ++ D).data.toList = I.data.toList ++ 47 :: D.data.toList := by simp [slashS]
      have il : I.data.toList.length = I.size := rfl
      have hat : slashAt (I ++ slashS ++ D) = I.size := by
        refine slash_some (by rw [ByteArray.size_append, ByteArray.size_append]; show I.size < I.size + 1 + D.size; omega) ?_ ?_
        · rw [el, List.getD_eq_getElem?_getD, List.getElem?_append_right (by omega), il, Nat.sub_self]
          rfl
        · intro m hm hc
          rw [el, List.getD_eq_getElem?_getD, List.getElem?_append_left (by omega), ← List.getD_eq_getElem?_getD] at hc
          refine List.count_eq_zero.1 hcI (List.mem_iff_getElem?.2 ⟨m, ?_⟩)
          rw [getD_some _ m hm, hc]
      have eh : headB (I ++ slashS ++ D) = I := by
        unfold headB
        rw [if_neg (by omega), hat, Int.toNat_natCast]
        apply WideShapes.bytes_inj
        rw [extract_listD, el, List.drop_zero, List.take_left' il]
      have et : tailB (I ++ slashS ++ D) = D := by
        unfold tailB
        rw [if_neg (by omega), hat, Int.toNat_natCast]
        apply WideShapes.bytes_inj
        rw [extract_listD, take_full, el, show I.data.toList ++ 47 :: D.data.toList = (I.data.toList ++ [47]) ++ D.data.toList by simp, List.drop_left' (by simp)]
      have hb := text_backI (X := denQ r) (by have := h.den; have : bp 4 ≤ bp 5 := bp_mono (by omega); omega)
      rw [← hd.d, hD] at hb
      unfold readQ
      rw [e, hI, hD, eh, et, ← hI, hs.1, hs.2, hb.1, hb.2.1]
      exact ⟨rfl, rfl, rfl⟩
  obtain ⟨m1, m2, m3⟩ := main
  have e : readB (ratTextB r) = true := by
    unfold readB
    rw [m1, m2, m3, decide_eq_true rfl]
    rfl
  exact ⟨e, by unfold trQ; rw [if_pos e, m1]⟩
theorem bd_sz {q : QI} {m : Nat} (h : Bd q m) (hm : m ≤ 18) : szQ q ≤ 1048576 := by
  have := bd_len h
  unfold szQ szS szI
  omega
/-- all that FnRat reckons -/
structure RatAll (r s t a b p q c d x : QI) : Prop where
  ea : addQ r s = (a, true)
  eb : mulQ a t = (b, true)
  ep : mulQ r t = (p, true)
  eq : mulQ s t = (q, true)
  ec : addQ p q = (c, true)
  bc : cmpQ b c = 0
  rs : cmpQ r s = -cmpQ s r
  ed : subQ a s = (d, true)
  dr : cmpQ d r = 0
  ex : subQ s r = (x, true)
  ord : (cmpQ r s ≤ 0) ↔ (0 ≤ cmpQ x oneQ)
  tb : readB (ratTextB r) = true
  tr : trQ (ratTextB r) = r
  rr : cmpQ r r = 0
  ok : okQ r = true ∧ okQ s = true ∧ okQ t = true
  dv : (cmpQ t oneQ = 0 ∧ divQ p t = (zeroQ, false)) ∨ (∃ e, cmpQ t oneQ ≠ 0 ∧ divQ p t = (e, true) ∧ cmpQ e r = 0 ∧ szQ e ≤ 1048576)
  sz : szQ r ≤ 1048576 ∧ szQ s ≤ 1048576 ∧ szQ t ≤ 1048576 ∧ szQ a ≤ 1048576 ∧ szQ b ≤ 1048576 ∧ szQ p ≤ 1048576 ∧ szQ q ≤ 1048576 ∧ szQ c ≤ 1048576 ∧ szQ d ≤ 1048576 ∧ szQ x ≤ 1048576
theorem rat_all {r s t : QI} (hr : Bd r 2) (hs : Bd s 2) (ht : Bd t 2) : ∃ a b p q c d x : QI, RatAll r s t a b p q c d x := by
  obtain ⟨a1, a2, a3⟩ := add_bd hr hs (by omega)
  obtain ⟨b1, b2, b3⟩ := mul_bd a2 ht (by omega)
  obtain ⟨p1, p2, p3⟩ := mul_bd hr ht (by omega)
  obtain ⟨q1, q2, q3⟩ := mul_bd hs ht (by omega)
  obtain ⟨c1, c2, c3⟩ := add_bd p2 q2 (by omega)
  obtain ⟨d1, d2, d3⟩ := sub_bd a2 hs (by omega)
  obtain ⟨x1, x2, x3⟩ := sub_bd hs hr (by omega)
  obtain ⟨t1, t2⟩ := text_back_rat (hr.mono (show 2 ≤ 4 by omega))
  refine ⟨_, _, _, _, _, _, _, pair_eq a1, pair_eq b1, pair_eq p1, pair_eq q1, pair_eq c1, cmp_same b2 c2 (by rw [b3, a3, c3, p3, q3]; grind), cmpQ_turn hr hs, pair_eq d1, cmp_same d2 hr (by rw [d3, a3]; grind), pair_eq x1, order_of hr hs x2 x3, t1, t2, cmp_same hr hr rfl, ⟨hr.ok, hs.ok, ht.ok⟩, ?_, ?_⟩
  · by_cases h0 : numQ t = 0
    · refine .inl ⟨by rw [signQ_of ht, h0, cmpI_self], ?_⟩
      have ht0 : (nval t.1.2).toNat = 0 := by have := abs_top ht.ok; unfold topN at this; omega
      unfold divQ
      rw [if_pos ⟨p2.ok, ht.ok⟩, ht0, Nat.mul_zero]
      unfold lowQ
      rw [if_neg (fun h => h.1 rfl)]
    · obtain ⟨e1, e2, e3⟩ := div_bd p2 ht (by omega) h0
      refine .inr ⟨_, ?_, pair_eq e1, cmp_same e2 hr ?_, bd_sz e2 (by omega)⟩
      · rw [signQ_of ht]; exact fun h => h0 ((cmpI_facts _ _).1.1 h)
      · have hv : ratV t ≠ 0 := by
          have n1 := rat_ne ht.pos
          have n2 : (numQ t : Rat) ≠ 0 := by exact_mod_cast h0
          unfold ratV
          grind
        rw [p3] at e3
        grind
  · exact ⟨bd_sz hr (by omega), bd_sz hs (by omega), bd_sz ht (by omega), bd_sz a2 (by omega), bd_sz b2 (by omega), bd_sz p2 (by omega), bd_sz q2 (by omega), bd_sz c2 (by omega), bd_sz d2 (by omega), bd_sz x2 (by omega)⟩
end Go.Proofs.YtkkdlgiilhngcaaGreatDoor

namespace Go.Proofs.YtkkdlgiilhngcaaGreatDoor
open Go.RowKit

theorem int_step {m n : Int} {out : List Int} {f : Nat} (hz : ¬ m = 0) (hol : out.length + f ≤ 3) (hmf : m.natAbs < 1000000000 ^ f) (he : out ++ limbs m.natAbs = limbs n.natAbs) (hq : (m.tdiv 1000000000).natAbs = m.natAbs / 1000000000) :
    ∃ g : Nat, (out ++ [((m.natAbs % 1000000000 : Nat) : Int)]).length + g ≤ 3 ∧ (m.tdiv 1000000000).natAbs < 1000000000 ^ g ∧ out ++ [((m.natAbs % 1000000000 : Nat) : Int)] ++ limbs (m.tdiv 1000000000).natAbs = limbs n.natAbs := by
  cases f with
  | zero => simp at hmf; omega
  | succ g =>
    refine ⟨g, by simp; omega, ?_, ?_⟩
    · rw [hq]
      rw [Nat.pow_succ, Nat.mul_comm] at hmf
      exact Nat.div_lt_of_lt_mul hmf
    · rw [hq, ← he, limbs_pos m.natAbs (by omega), List.append_assoc]
      rfl
theorem intOf_mk (n : Int) {s : Bool} (h : decide (n < 0) = s) : mkS s (limbs n.natAbs) = ofZ n := by
  rw [mkS_limbs]
  congr 1
  subst h
  by_cases hn : n < 0
  · rw [if_pos (by simpa using hn)]; omega
  · rw [if_neg (by simpa using hn)]; omega
end Go.Proofs.YtkkdlgiilhngcaaGreatDoor

namespace Go.Proofs.YtkkdlgiilhngcaaGreatDoor
open Go.RowKit

set_option maxHeartbeats 1000000 in
set_option maxRecDepth 100000 in
theorem implRatZero_any (w : World) : Calls Tryz.prog 45 #[] w (NewV (fun v => OwnQ v oneQ) w) := by
  have bb0 : Below w.heap.size w (w.alloc (.cells #[.bool false, .slice none 0 0, .slice none 0 0] 27)) := below_al (Below.refl _ _) _
  have ko := box_new w #[.bool false, .slice none 0 0, .slice none 0 0] 27
  go_enter Tryz.func45, Tryz.ntmps45
  go_wp2_with fail
  refine (implNatOf_any 1 _ (by decide)).mono ?_
  rintro e w1 ⟨v1, rfl, o1, b1⟩
  rw [show (1 : Int).toNat = 1 from rfl, one_limbs] at o1
  obtain ⟨A1, c1, rfl⟩ := own_len o1
  have bb1 := Below.next bb0 b1
  replace ko := ko.below b1
  have HR := Lib.hid (newQ_ret (x := oneQ) (u := .slice none 0 0) (B := w.heap.size) (w := w) ko.here (World.ownsRow_nil _ _ _ _) o1 (fun g hg => by cases hg) (Nat.le_refl _) bb0.size (Nat.le_refl _) bb1)
  have cz0 := ko.here.cell 0 _ rfl
  have cz1 := ko.here.cell 1 _ rfl
  have cz2 := ko.here.cell 2 _ rfl
  have fz0 := Lib.frozen_of_heap ko.here 0
  have fz1 := Lib.frozen_of_heap ko.here 1
  have fz2 := Lib.frozen_of_heap ko.here 2
  clear ko o1
  go_wp2
  refine bodyPost_ret (v := .agg #[.bool false, .slice none 0 0, .slice A1 _ c1]) (by simp [results, Tryz.results45, go_sem, cz0, cz1, cz2]; rfl) rfl ?_
  exact HR.out
set_option maxHeartbeats 2000000 in
set_option maxRecDepth 100000 in
theorem implRatCmp_any (vr vs : Value) (r s : QI) (w : World) (hzr : szQ r ≤ 1048576) (hzs : szQ s ≤ 1048576) (hr : OwnQ vr r w) (hs : OwnQ vs s w) (hsen : Sen w) :
    Calls Tryz.prog 10 #[vr, vs] w (Postn (cmpQ r s) w) := by
  have HS := Lib.hid hsen
  clear hsen
  have Hr := Lib.hid hr
  obtain ⟨Ar, cr, Br, dr, rfl⟩ := ownQ_form hr
  have OQr := Lib.hid (show ∀ W, Below w.heap.size w W → OwnQ (.agg #[.bool r.1.1, .slice Ar r.1.2.length cr, .slice Br r.2.length dr]) r W from fun W hb => OwnQ.below Hr.out hb)
  have OUr := Lib.hid (show ∀ W, Below w.heap.size w W → OwnI (.slice Ar r.1.2.length cr) r.1.2 W from fun W hb => (ownQ_open (OQr.out W hb)).2.1)
  have ODr := Lib.hid (show ∀ W, Below w.heap.size w W → OwnI (.slice Br r.2.length dr) r.2 W from fun W hb => (ownQ_open (OQr.out W hb)).2.2.1)
  have OSr := Lib.hid (show ∀ W, Below w.heap.size w W → OwnS (.agg #[.bool r.1.1, .slice Ar r.1.2.length cr]) r.1 W from fun W hb => OwnS.mk (OUr.out W hb))
  clear hr
  have Hs := Lib.hid hs
  obtain ⟨As, cs, Bs, ds, rfl⟩ := ownQ_form hs
  have OQs := Lib.hid (show ∀ W, Below w.heap.size w W → OwnQ (.agg #[.bool s.1.1, .slice As s.1.2.length cs, .slice Bs s.2.length ds]) s W from fun W hb => OwnQ.below Hs.out hb)
  have OUs := Lib.hid (show ∀ W, Below w.heap.size w W → OwnI (.slice As s.1.2.length cs) s.1.2 W from fun W hb => (ownQ_open (OQs.out W hb)).2.1)
  have ODs := Lib.hid (show ∀ W, Below w.heap.size w W → OwnI (.slice Bs s.2.length ds) s.2 W from fun W hb => (ownQ_open (OQs.out W hb)).2.2.1)
  have OSs := Lib.hid (show ∀ W, Below w.heap.size w W → OwnS (.agg #[.bool s.1.1, .slice As s.1.2.length cs]) s.1 W from fun W hb => OwnS.mk (OUs.out W hb))
  clear hs
  have bb0 : Below w.heap.size w (((w.alloc (.cells #[.bool r.1.1, .slice Ar r.1.2.length cr, .slice Br r.2.length dr] 27)).alloc (.cells #[.bool s.1.1, .slice As s.1.2.length cs, .slice Bs s.2.length ds] 27)).alloc (.cells #[.bool r.1.1, .slice Ar r.1.2.length cr, .slice Br r.2.length dr, .bool s.1.1, .slice As s.1.2.length cs, .slice Bs s.2.length ds] 52)) := below_al (below_al (below_al (Below.refl _ _) _) _) _
  have kr := (box_new w #[.bool r.1.1, .slice Ar r.1.2.length cr, .slice Br r.2.length dr] 27).below (below_al (below_al (Below.refl _ _) (.cells #[.bool s.1.1, .slice As s.1.2.length cs, .slice Bs s.2.length ds] 27)) (.cells #[.bool r.1.1, .slice Ar r.1.2.length cr, .slice Br r.2.length dr, .bool s.1.1, .slice As s.1.2.length cs, .slice Bs s.2.length ds] 52))
  have ks := (box_new (w.alloc (.cells #[.bool r.1.1, .slice Ar r.1.2.length cr, .slice Br r.2.length dr] 27)) #[.bool s.1.1, .slice As s.1.2.length cs, .slice Bs s.2.length ds] 27).below (below_al (Below.refl _ _) (.cells #[.bool r.1.1, .slice Ar r.1.2.length cr, .slice Br r.2.length dr, .bool s.1.1, .slice As s.1.2.length cs, .slice Bs s.2.length ds] 52))
  rw [show (w.alloc (.cells #[.bool r.1.1, .slice Ar r.1.2.length cr, .slice Br r.2.length dr] 27)).heap.size = w.heap.size + 1 by simp] at ks
  have kp := (box_new ((w.alloc (.cells #[.bool r.1.1, .slice Ar r.1.2.length cr, .slice Br r.2.length dr] 27)).alloc (.cells #[.bool s.1.1, .slice As s.1.2.length cs, .slice Bs s.2.length ds] 27)) #[.bool r.1.1, .slice Ar r.1.2.length cr, .slice Br r.2.length dr, .bool s.1.1, .slice As s.1.2.length cs, .slice Bs s.2.length ds] 52)
  rw [show ((w.alloc (.cells #[.bool r.1.1, .slice Ar r.1.2.length cr, .slice Br r.2.length dr] 27)).alloc (.cells #[.bool s.1.1, .slice As s.1.2.length cs, .slice Bs s.2.length ds] 27)).heap.size = w.heap.size + 1 + 1 by simp] at kp
  go_enter Tryz.func10, Tryz.ntmps10
  go_wp2_with fail
  refine (ok_any r s _ hzr hzs (HS.out.below bb0) (OQr.out _ bb0) (OQs.out _ bb0)).mono ?_
  rintro e w1 ⟨rfl, b1⟩
  have bb1 := Below.next bb0 b1
  replace kr := kr.below b1
  replace ks := ks.below b1
  replace kp := kp.below b1
  by_cases hok : (okQ r && okQ s) = true
  · rw [hok]
    have hok2 := (Bool.and_eq_true _ _ ▸ hok : okQ r = true ∧ okQ s = true)
    have HPr := Lib.hid (parts_of hok2.1)
    have HPs := Lib.hid (parts_of hok2.2)
    have hl1 : (leftS r s).2.length ≤ 1048576 := by rw [(leftS_eq HPr.out HPs.out).1]; have := ofZ_len (numQ r * denQ s); omega
    have hl2 : (leftS s r).2.length ≤ 1048576 := by rw [(leftS_eq HPs.out HPr.out).1]; have := ofZ_len (numQ s * denQ r); omega
    have HV := Lib.hid (show cmpS (leftS r s) (leftS s r) = cmpQ r s from cmpQ_make HPr.out HPs.out hok2.1 hok2.2)
    obtain ⟨L, hL⟩ : ∃ L, leftS r s = L := ⟨_, rfl⟩
    obtain ⟨R, hR⟩ : ∃ R, leftS s r = R := ⟨_, rfl⟩
    rw [hL, hR] at HV
    rw [hL] at hl1
    rw [hR] at hl2
    have EL := Lib.hid hL
    have ER := Lib.hid hR
    clear hok hok2 hL hR
    have kp_c0 := kp.here.cell 0 _ rfl
    have kp_c1 := kp.here.cell 1 _ rfl
    have kp_c2 := kp.here.cell 2 _ rfl
    have kp_c3 := kp.here.cell 3 _ rfl
    have kp_c4 := kp.here.cell 4 _ rfl
    have kp_c5 := kp.here.cell 5 _ rfl
    go_wp2_with fail
    have HC0 := Lib.hid (show Chg [] w1 w1.drew from (Chg.refl _ _).drew1)
    have HCr := Lib.hid (show Chg [] w1 w1 from Chg.refl _ _)
    have KL := Lib.hid (show ∀ W, Chg [] w1 W → W.cell? ⟨w.heap.size + 1 + 1, 0, none⟩ = some (.bool r.1.1) ∧ W.cell? ⟨w.heap.size + 1 + 1, 1, none⟩ = some (.slice Ar r.1.2.length cr) ∧ W.cell? ⟨w.heap.size + 1 + 1, 2, none⟩ = some (.slice Br r.2.length dr) ∧ W.cell? ⟨w.heap.size + 1 + 1, 3, none⟩ = some (.bool s.1.1) ∧ W.cell? ⟨w.heap.size + 1 + 1, 4, none⟩ = some (.slice As s.1.2.length cs) ∧ W.cell? ⟨w.heap.size + 1 + 1, 5, none⟩ = some (.slice Bs s.2.length ds) ∧ Hid (Chg [] w1 W) from fun W hc => ⟨(kp.chg hc (fun i hi hm => by simp at hm)).here.cell 0 _ rfl, (kp.chg hc (fun i hi hm => by simp at hm)).here.cell 1 _ rfl, (kp.chg hc (fun i hi hm => by simp at hm)).here.cell 2 _ rfl, (kp.chg hc (fun i hi hm => by simp at hm)).here.cell 3 _ rfl, (kp.chg hc (fun i hi hm => by simp at hm)).here.cell 4 _ rfl, (kp.chg hc (fun i hi hm => by simp at hm)).here.cell 5 _ rfl, Lib.hid hc⟩)
    have BBF := Lib.hid (show ∀ W, Chg [] w1 W → Below w.heap.size w W from fun W hc => below_chg bb1 hc bb1.size (fun i hi => by simp at hi))
    clear kp_c0 kp_c1 kp_c2 kp_c3 kp_c4 kp_c5
    go_region_held3 (fun W => W.cell? ⟨w.heap.size + 1 + 1, 0, none⟩ = some (.bool r.1.1) ∧ W.cell? ⟨w.heap.size + 1 + 1, 1, none⟩ = some (.slice Ar r.1.2.length cr) ∧ W.cell? ⟨w.heap.size + 1 + 1, 2, none⟩ = some (.slice Br r.2.length dr) ∧ W.cell? ⟨w.heap.size + 1 + 1, 3, none⟩ = some (.bool s.1.1) ∧ W.cell? ⟨w.heap.size + 1 + 1, 4, none⟩ = some (.slice As s.1.2.length cs) ∧ W.cell? ⟨w.heap.size + 1 + 1, 5, none⟩ = some (.slice Bs s.2.length ds) ∧ Hid (Chg [] w1 W))
      ((refine KL.out _ ?_; (first | exact HC4.out | exact HC3.out | exact HC2.out | exact HCr.out | exact HC0.out | exact HC4.out.drew1 | exact HC3.out.drew1 | exact HC2.out.drew1 | exact HCr.out.drew1 | exact HC0.out.drew1 | exact HC4.out.trans (Chg.of_below (below_al (Below.refl _ _) _)) | exact HC3.out.trans (Chg.of_below (below_al (Below.refl _ _) _)) | exact HC2.out.trans (Chg.of_below (below_al (Below.refl _ _) _)) | exact HCr.out.trans (Chg.of_below (below_al (Below.refl _ _) _)) | exact HC0.out.trans (Chg.of_below (below_al (Below.refl _ _) _)) | fail)))
      (first
        | (go_at_call 33; (have hBB := (‹_ ∧ _ ∧ _ ∧ _ ∧ _ ∧ _ ∧ Hid (Chg [] w1 _)›).2.2.2.2.2.2); (with_reducible refine ((left_any r s _ HPr.out HPs.out (OQr.out _ (BBF.out _ hBB.out)) (OQs.out _ (BBF.out _ hBB.out))).mono fun _ _ h => newVS_eq EL.out h).mono ?_); rintro e w2 ⟨ul, Sl, rfl, ol, ll, b2⟩; have HC2 := Lib.hid (hBB.out.trans (Chg.of_below b2)); obtain ⟨Al, cl, rfl⟩ := ownS_form ol.here; have HBZ2 := Lib.hid hBB.out.size; clear hBB)
        | (go_at_call 34; (have hBB := (‹_ ∧ _ ∧ _ ∧ _ ∧ _ ∧ _ ∧ Hid (Chg [] w1 _)›).2.2.2.2.2.2); (with_reducible refine ((right_any r s _ HPr.out HPs.out (OQr.out _ (BBF.out _ hBB.out)) (OQs.out _ (BBF.out _ hBB.out))).mono fun _ _ h => newVS_eq ER.out h).mono ?_); rintro e w3 ⟨ur, Sr, rfl, or, lr, b3⟩; have HC3 := Lib.hid (hBB.out.trans (Chg.of_below b3)); (have ol_3 := At.below (by first | exact ol | exact At.below ol (below_al (Below.refl _ _) _) | exact At.below (At.below ol (below_al (Below.refl _ _) _)) (below_al (Below.refl _ _) _) | exact At.move ol (fun _ _ => rfl) (Nat.le_refl _)) b3); obtain ⟨Ar_, cr_, rfl⟩ := ownS_form or.here; have HBZ3 := Lib.hid hBB.out.size; clear hBB)
        | (go_at_call 32; (have hBB := (‹_ ∧ _ ∧ _ ∧ _ ∧ _ ∧ _ ∧ Hid (Chg [] w1 _)›).2.2.2.2.2.2); (with_reducible refine (implIntCmp_any _ _ L R _ hl1 hl2 (At.here (by first | exact ol_3 | exact At.below ol_3 (below_al (Below.refl _ _) _) | exact At.below (At.below ol_3 (below_al (Below.refl _ _) _)) (below_al (Below.refl _ _) _) | exact At.move ol_3 (fun _ _ => rfl) (Nat.le_refl _))) (At.here (by first | exact or | exact At.below or (below_al (Below.refl _ _) _) | exact At.below (At.below or (below_al (Below.refl _ _) _)) (below_al (Below.refl _ _) _) | exact At.move or (fun _ _ => rfl) (Nat.le_refl _)))).mono ?_); rintro e w4 ⟨rfl, b4⟩; have HC4 := Lib.hid (hBB.out.trans (Chg.of_below b4)); (have ol_4 := At.below (by first | exact ol_3 | exact At.below ol_3 (below_al (Below.refl _ _) _) | exact At.below (At.below ol_3 (below_al (Below.refl _ _) _)) (below_al (Below.refl _ _) _) | exact At.move ol_3 (fun _ _ => rfl) (Nat.le_refl _)) b4); (have or_4 := At.below (by first | exact or | exact At.below or (below_al (Below.refl _ _) _) | exact At.below (At.below or (below_al (Below.refl _ _) _)) (below_al (Below.refl _ _) _) | exact At.move or (fun _ _ => rfl) (Nat.le_refl _)) b4); have HBZ4 := Lib.hid hBB.out.size; clear hBB))
    have bb4 := BBF.out _ HC4.out
    replace kr := kr.chg HC4.out (fun i hi hm => by simp at hm)
    replace ks := ks.chg HC4.out (fun i hi hm => by simp at hm)
    replace kp := kp.chg HC4.out (fun i hi hm => by simp at hm)
    have ol := ol_4
    have or := or_4
    go_wp2
    go_ret
    exact ⟨ret_int HV.out, bb4⟩
  · have hok' : (okQ r && okQ s) = false := by simpa using hok
    have HV := Lib.hid (show cmpQ r s = 0 by unfold cmpQ; rw [if_neg (fun h => hok (by rw [h.1, h.2]; rfl))])
    rw [hok']
    clear hok hok'
    go_wp2
    go_ret
    exact ⟨ret_int HV.out.symm, bb1⟩
set_option maxHeartbeats 2000000 in
set_option maxRecDepth 100000 in
theorem implRatSign_any (vr : Value) (r : QI) (w : World) (hzr : szQ r ≤ 1048576) (hr : OwnQ vr r w) (hsen : Sen w) :
    Calls Tryz.prog 15 #[vr] w (Postn (cmpQ r oneQ) w) := by
  have HS := Lib.hid hsen
  clear hsen
  have Hr := Lib.hid hr
  obtain ⟨Ar, cr, Br, dr, rfl⟩ := ownQ_form hr
  have OQr := Lib.hid (show ∀ W, Below w.heap.size w W → OwnQ (.agg #[.bool r.1.1, .slice Ar r.1.2.length cr, .slice Br r.2.length dr]) r W from fun W hb => OwnQ.below Hr.out hb)
  have OUr := Lib.hid (show ∀ W, Below w.heap.size w W → OwnI (.slice Ar r.1.2.length cr) r.1.2 W from fun W hb => (ownQ_open (OQr.out W hb)).2.1)
  have ODr := Lib.hid (show ∀ W, Below w.heap.size w W → OwnI (.slice Br r.2.length dr) r.2 W from fun W hb => (ownQ_open (OQr.out W hb)).2.2.1)
  have OSr := Lib.hid (show ∀ W, Below w.heap.size w W → OwnS (.agg #[.bool r.1.1, .slice Ar r.1.2.length cr]) r.1 W from fun W hb => OwnS.mk (OUr.out W hb))
  clear hr
  have bb0 : Below w.heap.size w (w.alloc (.cells #[.bool r.1.1, .slice Ar r.1.2.length cr, .slice Br r.2.length dr] 27)) := below_al (Below.refl _ _) _
  have kr := (box_new w #[.bool r.1.1, .slice Ar r.1.2.length cr, .slice Br r.2.length dr] 27)
  obtain ⟨W0, hW0⟩ : ∃ W0, W0 = (w.alloc (.cells #[.bool r.1.1, .slice Ar r.1.2.length cr, .slice Br r.2.length dr] 27)) := ⟨_, rfl⟩
  rw [← hW0] at bb0 kr
  have HW0 := Lib.hid hW0
  clear hW0
  obtain ⟨z, hz⟩ : ∃ z, cmpQ r oneQ = z := ⟨_, rfl⟩
  have EZ := Lib.hid hz
  rw [hz]
  clear hz
  go_enter Tryz.func15, Tryz.ntmps15
  have kr_c0 := kr.here.cell 0 _ rfl
  have kr_c1 := kr.here.cell 1 _ rfl
  have kr_c2 := kr.here.cell 2 _ rfl
  go_wp2_with fail
  rw [← HW0.out]
  have HC0 := Lib.hid (show Chg [] W0 W0.drew from (Chg.refl _ _).drew1)
  have HCr := Lib.hid (show Chg [] W0 W0 from Chg.refl _ _)
  have KL := Lib.hid (show ∀ W, Chg [] W0 W → W.cell? ⟨w.heap.size, 0, none⟩ = some (.bool r.1.1) ∧ W.cell? ⟨w.heap.size, 1, none⟩ = some (.slice Ar r.1.2.length cr) ∧ W.cell? ⟨w.heap.size, 2, none⟩ = some (.slice Br r.2.length dr) ∧ Hid (Chg [] W0 W) from fun W hc => ⟨(kr.chg hc (fun i hi hm => by simp at hm)).here.cell 0 _ rfl, (kr.chg hc (fun i hi hm => by simp at hm)).here.cell 1 _ rfl, (kr.chg hc (fun i hi hm => by simp at hm)).here.cell 2 _ rfl, Lib.hid hc⟩)
  have BBF := Lib.hid (show ∀ W, Chg [] W0 W → Below w.heap.size w W from fun W hc => below_chg bb0 hc bb0.size (fun i hi => by simp at hi))
  clear kr_c0 kr_c1 kr_c2
  go_region_held3 (fun W => W.cell? ⟨w.heap.size, 0, none⟩ = some (.bool r.1.1) ∧ W.cell? ⟨w.heap.size, 1, none⟩ = some (.slice Ar r.1.2.length cr) ∧ W.cell? ⟨w.heap.size, 2, none⟩ = some (.slice Br r.2.length dr) ∧ Hid (Chg [] W0 W))
    ((refine KL.out _ ?_; (first | exact HC2.out | exact HC1.out | exact HCr.out | exact HC0.out | exact HC2.out.drew1 | exact HC1.out.drew1 | exact HCr.out.drew1 | exact HC0.out.drew1 | exact HC2.out.trans (Chg.of_below (below_al (Below.refl _ _) _)) | exact HC1.out.trans (Chg.of_below (below_al (Below.refl _ _) _)) | exact HCr.out.trans (Chg.of_below (below_al (Below.refl _ _) _)) | exact HC0.out.trans (Chg.of_below (below_al (Below.refl _ _) _)) | fail)))
    (first
      | (go_at_call 45; (have hBB := (‹_ ∧ _ ∧ _ ∧ Hid (Chg [] W0 _)›).2.2.2); (with_reducible refine (implRatZero_any _).mono ?_); rintro e w1 ⟨uz, Sz, rfl, oz, lz, b1⟩; have HC1 := Lib.hid (hBB.out.trans (Chg.of_below b1)); obtain ⟨Az, cz, Bz, dz, rfl⟩ := ownQ_form oz.here; have HBZ1 := Lib.hid hBB.out.size; clear hBB)
      | (go_at_call 10; (have hBB := (‹_ ∧ _ ∧ _ ∧ Hid (Chg [] W0 _)›).2.2.2); (with_reducible refine ((implRatCmp_any _ _ r oneQ _ hzr (by decide) (OQr.out _ (BBF.out _ hBB.out)) (At.here (by first | exact oz | exact At.below oz (below_al (Below.refl _ _) _) | exact At.below (At.below oz (below_al (Below.refl _ _) _)) (below_al (Below.refl _ _) _) | exact At.move oz (fun _ _ => rfl) (Nat.le_refl _))) (HS.out.below (BBF.out _ hBB.out))).mono fun _ _ h => postn_eq EZ.out h).mono ?_); rintro e w2 ⟨rfl, b2⟩; have HC2 := Lib.hid (hBB.out.trans (Chg.of_below b2)); (have oz_2 := At.below (by first | exact oz | exact At.below oz (below_al (Below.refl _ _) _) | exact At.below (At.below oz (below_al (Below.refl _ _) _)) (below_al (Below.refl _ _) _) | exact At.move oz (fun _ _ => rfl) (Nat.le_refl _)) b2); have HBZ2 := Lib.hid hBB.out.size; clear hBB))
  have bb2 := BBF.out _ HC2.out
  replace kr := kr.chg HC2.out (fun i hi hm => by simp at hm)
  have oz := oz_2
  go_wp2
  go_ret
  exact ⟨rfl, bb2⟩
end Go.Proofs.YtkkdlgiilhngcaaGreatDoor
