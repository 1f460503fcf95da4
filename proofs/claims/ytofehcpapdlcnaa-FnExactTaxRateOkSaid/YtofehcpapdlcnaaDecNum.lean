/-
  Decimal numbers as data, and what the functions of chapter 8 make of them (those that reckon without fractions).
-/
import Derived.Test.YtofehcpapdlcnaaSigned
import Derived.Test.YtofehcpapdlcnaaDivSpec4
namespace Go.Proofs.Ytofehcpapdlcnaa
open Go.RowKit

/-- a decimal number as data: its number, its scale -/
abbrev DI : Type := SI × Int
def zeroD : DI := (zeroS, 0)
/-- DecOk -/
def okD (d : DI) : Bool := okS d.1 && (decide (d.1.2.length ≤ 6) && decide (0 ≤ d.2 ∧ d.2 ≤ 30))
def numD (d : DI) : Int := valS d.1
structure PartsD (d : DI) : Prop where
  ok : okS d.1 = true
  len : d.1.2.length ≤ 6
  lo : 0 ≤ d.2
  hi : d.2 ≤ 30
theorem partsD {d : DI} (h : okD d = true) : PartsD d := by
  unfold okD at h
  rw [Bool.and_eq_true, Bool.and_eq_true, decide_eq_true_eq, decide_eq_true_eq] at h
  exact ⟨h.1, h.2.1, h.2.2.1, h.2.2.2⟩
theorem okD_of {d : DI} (h : PartsD d) : okD d = true := by
  unfold okD
  rw [h.ok, decide_eq_true h.len, decide_eq_true (show 0 ≤ d.2 ∧ d.2 ≤ 30 from ⟨h.lo, h.hi⟩)]
  rfl
/-- a number with a scale, where that is right -/
def decD (x : SI) (k : Int) : DI × Bool := if okD (x, k) = true then ((x, k), true) else (zeroD, false)
/-- the same over an integer -/
def decZ (z k : Int) : DI × Bool := if (z.natAbs : Int) < bp 6 ∧ 0 ≤ k ∧ k ≤ 30 then ((ofZ z, k), true) else (zeroD, false)
/-- ten to the power k -/
def pt (k : Int) : Int := 10 ^ k.toNat
def tenS (k : Int) : SI := (false, tenN k)
def topD (d e : DI) : Int := if d.2 < e.2 then e.2 else d.2
def liftD (d : DI) (s : Int) : Int := numD d * pt (s - d.2)
def addD (d e : DI) : DI × Bool := if okD d = true ∧ okD e = true then decZ (liftD d (topD d e) + liftD e (topD d e)) (topD d e) else (zeroD, false)
def subD (d e : DI) : DI × Bool := if okD d = true ∧ okD e = true then decZ (liftD d (topD d e) - liftD e (topD d e)) (topD d e) else (zeroD, false)
def mulD (d e : DI) : DI × Bool := if okD d = true ∧ okD e = true then decZ (numD d * numD e) (d.2 + e.2) else (zeroD, false)
def cmpD (d e : DI) : Int := if okD d = true ∧ okD e = true then cmpI (liftD d (topD d e)) (liftD e (topD d e)) else 0
def atD (d : DI) (k : Int) : DI × Bool :=
  if okD d = true ∧ 0 ≤ k ∧ k ≤ 30 then
    (if d.2 ≤ k then decZ (liftD d k) k
     else if numD d % pt (d.2 - k) = 0 then decZ (numD d / pt (d.2 - k)) k else (zeroD, false))
  else (zeroD, false)

theorem pt_pos (k : Int) : 0 < pt k := ten_pos k.toNat
theorem pt_nat (k : Int) : ((10 ^ k.toNat : Nat) : Int) = pt k := by unfold pt; rw [Int.natCast_pow]; rfl
theorem bp_four : (10 : Int) ^ 30 < bp 4 := by decide
theorem pt_mono {j k : Int} (h : j ≤ k) : pt j ≤ pt k := by
  rw [← pt_nat, ← pt_nat]
  exact Int.ofNat_le.2 (Nat.pow_le_pow_right (by omega) (by omega))
theorem pt_lt {k : Int} (h : k ≤ 30) : pt k < bp 4 := by
  have h1 := pt_mono h
  have h2 : pt 30 < bp 4 := bp_four
  omega
theorem tenN_pt {k : Int} (h0 : 0 ≤ k) (h1 : k ≤ 30) : tenN k = limbs (10 ^ k.toNat) ∧ (tenN k).length ≤ 4 ∧ natOkB (tenN k) = true ∧ nval (tenN k) = pt k := by
  have e : tenN k = limbs (10 ^ k.toNat) := by unfold tenN; rw [if_pos ⟨h0, by omega⟩]
  have hl : (limbs (10 ^ k.toNat)).length ≤ 4 := limbs_length_le _ 4 (by rw [pt_nat]; exact pt_lt h1)
  refine ⟨e, by rw [e]; exact hl, by rw [e]; exact limbs_okL _ (by omega), ?_⟩
  rw [e, limbs_val, pt_nat]
theorem tenS_ok {k : Int} (h0 : 0 ≤ k) (h1 : k ≤ 30) : okS (tenS k) = true ∧ valS (tenS k) = pt k ∧ (tenS k).2.length ≤ 4 := by
  obtain ⟨_, h2, h3, h4⟩ := tenN_pt h0 h1
  exact ⟨by unfold okS tenS; rw [h3]; rfl, h4, h2⟩
/-- a right number of few limbs is small -/
theorem few_lt {x : SI} {k : Nat} (ok : okS x = true) (hl : x.2.length ≤ k) : ((valS x).natAbs : Int) < bp k := by
  have hp := okS_parts ok
  have ha := valS_abs x hp.1
  have h3 := nval_lt x.2 (natOk_parts hp.1).1
  have h4 := nval_ok hp.1
  have h5 : bp x.2.length ≤ bp k := bp_mono hl
  omega
theorem few_len {z : Int} {k : Nat} (hk : k ≤ 50) : (ofZ z).2.length ≤ k ∧ (limbs z.natAbs).length ≤ 50 ↔ (z.natAbs : Int) < bp k := by
  constructor
  · intro ⟨h, hl⟩
    have := few_lt (ofZ_ok z) h
    rw [ofZ_val hl] at this
    exact this
  · intro h
    have hl := limbs_length_le z.natAbs k h
    refine ⟨?_, by omega⟩
    unfold ofZ
    rw [if_pos (by omega)]
    exact hl
theorem ofZ_few {z : Int} {k : Nat} (h : (z.natAbs : Int) < bp k) (hk : k ≤ 50) : okS (ofZ z) = true ∧ valS (ofZ z) = z := ⟨ofZ_ok z, ofZ_val (by have := limbs_length_le z.natAbs k h; omega)⟩
theorem decD_ofZ {z : Int} (k : Int) (h : (z.natAbs : Int) < bp 50) : decD (ofZ z) k = decZ z k := by
  have hl := limbs_length_le z.natAbs 50 h
  unfold decD decZ
  by_cases hc : (z.natAbs : Int) < bp 6 ∧ 0 ≤ k ∧ k ≤ 30
  · rw [if_pos hc, if_pos (okD_of ⟨ofZ_ok z, ((few_len (by omega)).2 hc.1).1, hc.2.1, hc.2.2⟩)]
  · rw [if_neg hc, if_neg]
    intro ho
    have p := partsD ho
    exact hc ⟨(few_len (by omega)).1 ⟨p.len, hl⟩, p.lo, p.hi⟩
theorem decD_ok (x : SI) (k : Int) (h : (decD x k).2 = true) : okD (decD x k).1 = true := by
  unfold decD at h ⊢
  split
  · assumption
  · rename_i hn
    rw [if_neg hn] at h
    exact absurd h (by decide)
theorem decZ_yes {z k : Int} (h : (z.natAbs : Int) < bp 6) (h0 : 0 ≤ k) (h1 : k ≤ 30) : decZ z k = ((ofZ z, k), true) ∧ okD (ofZ z, k) = true ∧ numD (ofZ z, k) = z := by
  refine ⟨by unfold decZ; rw [if_pos ⟨h, h0, h1⟩], okD_of ⟨ofZ_ok z, ((few_len (by omega)).2 h).1, h0, h1⟩, (ofZ_few h (by omega)).2⟩
theorem decZ_parts {z k : Int} (h : (decZ z k).2 = true) : (z.natAbs : Int) < bp 6 ∧ 0 ≤ k ∧ k ≤ 30 := by
  unfold decZ at h
  by_cases hc : (z.natAbs : Int) < bp 6 ∧ 0 ≤ k ∧ k ≤ 30
  · exact hc
  · rw [if_neg hc] at h
    exact absurd h (by decide)
theorem num_lt {d : DI} (h : PartsD d) : ((numD d).natAbs : Int) < bp 6 := few_lt h.ok h.len
theorem absZ_mul (a b : Int) : ((a * b).natAbs : Int) = (a.natAbs : Int) * b.natAbs := by rw [Int.natAbs_mul]; exact Int.natCast_mul _ _
theorem mulZ_lt {a b : Int} {j k : Nat} (ha : (a.natAbs : Int) < bp j) (hb : (b.natAbs : Int) < bp k) : ((a * b).natAbs : Int) < bp (j + k) := by
  rw [absZ_mul, bp_add]
  have hk := bp_pos k
  exact Int.lt_of_le_of_lt (Int.mul_le_mul_of_nonneg_left (Int.le_of_lt hb) (by omega)) (Int.mul_lt_mul_of_pos_right ha hk)
theorem pt_abs {k : Int} (h : k ≤ 30) : ((pt k).natAbs : Int) < bp 4 := by
  have h1 := pt_pos k
  have h2 := pt_lt h
  omega
theorem lift_lt {d : DI} {s : Int} (h : PartsD d) (hs : s ≤ 30) : ((liftD d s).natAbs : Int) < bp 10 := by
  have hm := mulZ_lt (j := 6) (k := 4) (num_lt h) (pt_abs (k := s - d.2) (by have := h.lo; omega))
  exact hm
/-- what a multiplication by a power of ten gives -/
theorem mul_ten {d : DI} {j : Int} (h : PartsD d) (h0 : 0 ≤ j) (h1 : j ≤ 30) : mulS d.1 (tenS j) = ofZ (numD d * pt j) ∧ okS (mulS d.1 (tenS j)) = true ∧ valS (mulS d.1 (tenS j)) = numD d * pt j := by
  have t := tenS_ok h0 h1
  have e : mulS d.1 (tenS j) = ofZ (numD d * pt j) := by unfold mulS; rw [if_pos ⟨h.ok, t.1⟩, t.2.1]; rfl
  have s := ofZ_few (mulZ_lt (j := 6) (k := 4) (num_lt h) (pt_abs h1)) (by omega)
  exact ⟨e, by rw [e]; exact s.1, by rw [e]; exact s.2⟩
theorem topD_le {d e : DI} (hd : PartsD d) (he : PartsD e) : d.2 ≤ topD d e ∧ e.2 ≤ topD d e ∧ 0 ≤ topD d e ∧ topD d e ≤ 30 := by
  have := hd.lo; have := hd.hi; have := he.lo; have := he.hi
  unfold topD
  split <;> omega
theorem bp_ten_one : bp 10 + bp 10 ≤ bp 11 := by decide
theorem sum_few {x y : Int} (hx : (x.natAbs : Int) < bp 10) (hy : (y.natAbs : Int) < bp 10) : ((x + y).natAbs : Int) < bp 50 ∧ ((x - y).natAbs : Int) < bp 50 := by
  have h1 := bp_ten_one
  have h2 : bp 11 ≤ bp 50 := bp_mono (by omega)
  omega
def szD (q : DI) : Int := szS q.1
theorem decZ_sz (z k : Int) : szD (decZ z k).1 ≤ 1048576 := by
  unfold decZ
  split
  · have := ofZ_len z
    unfold szD szS szI
    simp only
    omega
  · decide
theorem decD_sz (x : SI) (k : Int) : szD (decD x k).1 ≤ 1048576 := by
  unfold decD
  split
  · rename_i h
    have := (partsD h).len
    unfold szD szS szI
    simp only at this ⊢
    omega
  · decide
theorem addD_is {d e : DI} (hd : okD d = true) (he : okD e = true) : decD (addS (mulS d.1 (tenS (topD d e - d.2))) (mulS e.1 (tenS (topD d e - e.2)))) (topD d e) = addD d e := by
  have pd := partsD hd
  have pe := partsD he
  have t := topD_le pd pe
  have md := mul_ten pd (j := topD d e - d.2) (by omega) (by have := pd.lo; omega)
  have me := mul_ten pe (j := topD d e - e.2) (by omega) (by have := pe.lo; omega)
  unfold addS
  rw [if_pos ⟨md.2.1, me.2.1⟩, md.2.2, me.2.2]
  unfold addD
  rw [if_pos ⟨hd, he⟩]
  exact decD_ofZ _ (sum_few (lift_lt pd t.2.2.2) (lift_lt pe t.2.2.2)).1
theorem subD_is {d e : DI} (hd : okD d = true) (he : okD e = true) : decD (subS (mulS d.1 (tenS (topD d e - d.2))) (mulS e.1 (tenS (topD d e - e.2)))) (topD d e) = subD d e := by
  have pd := partsD hd
  have pe := partsD he
  have t := topD_le pd pe
  have md := mul_ten pd (j := topD d e - d.2) (by omega) (by have := pd.lo; omega)
  have me := mul_ten pe (j := topD d e - e.2) (by omega) (by have := pe.lo; omega)
  unfold subS
  rw [if_pos ⟨md.2.1, me.2.1⟩, md.2.2, me.2.2]
  unfold subD
  rw [if_pos ⟨hd, he⟩]
  exact decD_ofZ _ (sum_few (lift_lt pd t.2.2.2) (lift_lt pe t.2.2.2)).2
theorem cmpD_is {d e : DI} (hd : okD d = true) (he : okD e = true) : cmpS (mulS d.1 (tenS (topD d e - d.2))) (mulS e.1 (tenS (topD d e - e.2))) = cmpD d e := by
  have pd := partsD hd
  have pe := partsD he
  have t := topD_le pd pe
  have md := mul_ten pd (j := topD d e - d.2) (by omega) (by have := pd.lo; omega)
  have me := mul_ten pe (j := topD d e - e.2) (by omega) (by have := pe.lo; omega)
  unfold cmpS
  rw [if_pos ⟨md.2.1, me.2.1⟩, md.2.2, me.2.2]
  unfold cmpD
  rw [if_pos ⟨hd, he⟩]
  rfl
theorem mulD_is {d e : DI} (hd : okD d = true) (he : okD e = true) : decD (mulS d.1 e.1) (d.2 + e.2) = mulD d e := by
  have pd := partsD hd
  have pe := partsD he
  unfold mulS
  rw [if_pos ⟨pd.ok, pe.ok⟩]
  unfold mulD
  rw [if_pos ⟨hd, he⟩]
  have h := mulZ_lt (j := 6) (k := 6) (num_lt pd) (num_lt pe)
  have h2 : bp (6 + 6) ≤ bp 50 := bp_mono (by omega)
  exact decD_ofZ _ (by show ((numD d * numD e).natAbs : Int) < _; omega)
/-- the same number at another scale, upwards -/
theorem atD_up {d : DI} {k : Int} (hd : okD d = true) (h0 : 0 ≤ k) (h1 : k ≤ 30) (hk : d.2 ≤ k) : decD (mulS d.1 (tenS (k - d.2))) k = atD d k := by
  have pd := partsD hd
  have m := mul_ten pd (j := k - d.2) (by omega) (by have := pd.lo; omega)
  have h2 : bp 10 ≤ bp 50 := bp_mono (by omega)
  unfold atD
  rw [if_pos ⟨hd, h0, h1⟩, if_pos hk, m.1]
  exact decD_ofZ _ (by have := lift_lt pd h1; show ((liftD d k).natAbs : Int) < _; omega)
theorem trunc_of {n : Bool} {A : Nat} {P : Int} (hd : (A : Int) % P = 0) : (if n = true then -(A : Int) else A) % P = 0 ∧ (if n = true then -(A : Int) else A) / P = if n = true then -((A : Int) / P) else (A : Int) / P := by
  cases n
  · exact ⟨by simpa using hd, by simp⟩
  · have hdv : P ∣ (A : Int) := Int.dvd_of_emod_eq_zero hd
    simp only [if_true]
    exact ⟨Int.emod_eq_zero_of_dvd (Int.dvd_neg.2 hdv), Int.neg_ediv_of_dvd hdv⟩
/-- and downwards: cut off what is too much -/
theorem atD_down {d : DI} {k : Int} (hd : okD d = true) (h0 : 0 ≤ k) (hk : k < d.2) :
    (0 < (cutN d.1.2 (d.2 - k)).2.length → atD d k = (zeroD, false)) ∧ (¬ 0 < (cutN d.1.2 (d.2 - k)).2.length → decD (d.1.1, (cutN d.1.2 (d.2 - k)).1) k = atD d k) := by
  have pd := partsD hd
  have hi := pd.hi
  have t := tenN_pt (k := d.2 - k) (by omega) (by omega)
  have hp := okS_parts pd.ok
  have hn := nval_ok hp.1
  have hP := pt_pos (d.2 - k)
  have ht : 0 < (tenN (d.2 - k)).length := by
    rcases Nat.eq_zero_or_pos (tenN (d.2 - k)).length with h | h
    · have e : tenN (d.2 - k) = [] := List.eq_nil_of_length_eq_zero h
      have := t.2.2.2
      rw [e] at this
      simp only [nval] at this
      omega
    · exact h
  have hc : cutN d.1.2 (d.2 - k) = (limbs (nval d.1.2 / pt (d.2 - k)).toNat, limbs (nval d.1.2 % pt (d.2 - k)).toNat) := by
    unfold cutN
    rw [if_pos (by omega)]
    unfold divN
    rw [if_pos ⟨hp.1, t.2.2.1, ht⟩, t.2.2.2]
  rw [hc]
  show (0 < (limbs (nval d.1.2 % pt (d.2 - k)).toNat).length → _) ∧ (¬ 0 < (limbs (nval d.1.2 % pt (d.2 - k)).toNat).length → _)
  have hm0 := Int.emod_nonneg (nval d.1.2) (Int.ne_of_gt hP)
  have hv : numD d = if d.1.1 = true then -((nval d.1.2).toNat : Int) else (nval d.1.2).toNat := by
    unfold numD valS
    rw [Int.toNat_of_nonneg hn]
  have hA : ((nval d.1.2).toNat : Int) = nval d.1.2 := Int.toNat_of_nonneg hn
  have key : (limbs (nval d.1.2 % pt (d.2 - k)).toNat).length = 0 ↔ numD d % pt (d.2 - k) = 0 := by
    rw [limbs_zero_iff]
    constructor
    · intro h
      rw [hv]
      exact (trunc_of (by rw [hA]; omega)).1
    · intro h
      have : nval d.1.2 % pt (d.2 - k) = 0 := by
        rw [hv] at h
        split at h
        · rw [hA] at h
          exact Int.emod_eq_zero_of_dvd (Int.dvd_neg.1 (Int.dvd_of_emod_eq_zero h))
        · rw [hA] at h
          exact h
      omega
  unfold atD
  rw [if_pos ⟨hd, h0, by omega⟩, if_neg (by omega)]
  refine ⟨fun h => by rw [if_neg (fun e => by rw [← key] at e; omega)], fun h => ?_⟩
  have hz : numD d % pt (d.2 - k) = 0 := key.1 (by omega)
  rw [if_pos hz]
  have hr : nval d.1.2 % pt (d.2 - k) = 0 := by
    have := (limbs_zero_iff _).1 (key.2 hz)
    omega
  have tr := trunc_of (n := d.1.1) (A := (nval d.1.2).toNat) (by rw [hA]; exact hr)
  have hq0 : 0 ≤ nval d.1.2 / pt (d.2 - k) := Int.ediv_nonneg hn (by omega)
  have hql : nval d.1.2 / pt (d.2 - k) ≤ nval d.1.2 := Int.ediv_le_self _ hn
  have hlt := num_lt pd
  have hab : ((numD d).natAbs : Int) = nval d.1.2 := by rw [hv]; split <;> omega
  have hb : (((numD d / pt (d.2 - k)).natAbs : Nat) : Int) < bp 6 := by
    rw [hv, tr.2, hA]
    split <;> omega
  have hl6 : (limbs (nval d.1.2 / pt (d.2 - k)).toNat).length ≤ 6 := limbs_length_le _ 6 (by omega)
  have he : ((d.1.1, limbs (nval d.1.2 / pt (d.2 - k)).toNat) : SI) = ofZ (numD d / pt (d.2 - k)) := by
    have e1 : mkS d.1.1 (limbs (nval d.1.2 / pt (d.2 - k)).toNat) = ofZ (numD d / pt (d.2 - k)) := by
      rw [mkS_limbs, hv, tr.2, hA, Int.toNat_of_nonneg hq0]
    rw [← e1]
    unfold mkS capL
    rw [if_neg (by omega)]
    refine Prod.ext ?_ rfl
    show d.1.1 = (d.1.1 && decide (0 < (limbs (nval d.1.2 / pt (d.2 - k)).toNat).length))
    cases hs : d.1.1 with
    | false => rfl
    | true =>
      have h3 : 0 < nval d.1.2 := okS_pos pd.ok (hp.2 hs)
      have h4 : nval d.1.2 / pt (d.2 - k) ≠ 0 := fun e => by
        have := Int.mul_ediv_add_emod (nval d.1.2) (pt (d.2 - k))
        rw [e, hr] at this
        omega
      have h5 : 0 < (limbs (nval d.1.2 / pt (d.2 - k)).toNat).length := by
        rcases Nat.eq_zero_or_pos (limbs (nval d.1.2 / pt (d.2 - k)).toNat).length with h | h
        · have := (limbs_zero_iff _).1 h
          omega
        · exact h
      rw [decide_eq_true h5]
      rfl
  rw [he]
  exact decD_ofZ _ (by have : bp 6 ≤ bp 50 := bp_mono (by omega); omega)

/-! ### the smallest scale -/
theorem decZ_num {d : DI} (h : okD d = true) : decZ (numD d) d.2 = (d, true) := by
  have p := partsD h
  rw [(decZ_yes (num_lt p) p.lo p.hi).1]
  show ((ofZ (valS d.1), d.2), true) = (d, true)
  rw [okS_ofZ p.ok]
theorem pt_zero : pt 0 = 1 := rfl
theorem at_self {d : DI} (h : okD d = true) : atD d d.2 = (d, true) := by
  have p := partsD h
  unfold atD liftD
  rw [if_pos ⟨h, p.lo, p.hi⟩, if_pos (Int.le_refl _), Int.sub_self, pt_zero, Int.mul_one]
  exact decZ_num h
theorem at_parts {d : DI} {k : Int} (hd : okD d = true) (h : (atD d k).2 = true) (hk : k ≤ d.2) : okD (atD d k).1 = true ∧ (atD d k).1.2 = k ∧ liftD (atD d k).1 d.2 = numD d := by
  rcases Int.lt_or_eq_of_le hk with hk | rfl
  · unfold atD at h ⊢
    split at h
    · rename_i hc
      rw [if_pos hc] 
      rw [if_neg (by omega)] at h ⊢
      split at h
      · rename_i hz
        rw [if_pos hz]
        have b := decZ_parts h
        have y := decZ_yes b.1 b.2.1 b.2.2
        rw [y.1]
        refine ⟨y.2.1, rfl, ?_⟩
        unfold liftD
        show numD (ofZ (numD d / pt (d.2 - k)), k) * pt (d.2 - k) = _
        rw [y.2.2]
        exact Int.ediv_mul_cancel (Int.dvd_of_emod_eq_zero hz)
      · exact absurd h (by decide)
    · exact absurd h (by decide)
  · rw [at_self hd]
    refine ⟨hd, rfl, ?_⟩
    unfold liftD
    rw [Int.sub_self, pt_zero, Int.mul_one]
theorem at_back {q d : DI} (hd : okD d = true) (hq : okD q = true) (hk : q.2 ≤ d.2) (h : liftD q d.2 = numD d) : atD q d.2 = (d, true) := by
  have p := partsD hd
  unfold atD
  rw [if_pos ⟨hq, p.lo, p.hi⟩, if_pos hk, h]
  exact decZ_num hd
def lowFrom (d : DI) : Nat → Int → DI
  | 0, _ => zeroD
  | n + 1, k => if (atD d k).2 = true then (atD d k).1 else lowFrom d n (k + 1)
/-- the same number with the smallest scale -/
def lowD (d : DI) : DI := lowFrom d 31 0
theorem low_hit {d : DI} {n : Nat} {k : Int} (h : (atD d k).2 = true) : lowFrom d (n + 1) k = (atD d k).1 := if_pos h
theorem low_miss {d : DI} {n : Nat} {k : Int} (h : (atD d k).2 = false) : lowFrom d (n + 1) k = lowFrom d n (k + 1) := if_neg (by rw [h]; decide)
theorem low_none (d : DI) (k : Int) : lowFrom d 0 k = zeroD := rfl
theorem low_bad {d : DI} (h : ¬ okD d = true) : ∀ (n : Nat) (k : Int), lowFrom d n k = zeroD := by
  intro n
  induction n with
  | zero => intro k; rfl
  | succ n ih => intro k; rw [low_miss (by unfold atD; rw [if_neg (fun e => h e.1)])]; exact ih _
theorem low_from {d : DI} (hd : okD d = true) : ∀ (n : Nat) (k : Int), 0 ≤ k → k ≤ d.2 → d.2 < k + n → ∃ j, k ≤ j ∧ j ≤ d.2 ∧ (atD d j).2 = true ∧ lowFrom d n k = (atD d j).1 ∧ ∀ i, k ≤ i → i < j → (atD d i).2 = false := by
  intro n
  induction n with
  | zero => intro k h0 h1 h2; omega
  | succ n ih =>
    intro k h0 h1 h2
    by_cases hc : (atD d k).2 = true
    · exact ⟨k, Int.le_refl _, h1, hc, low_hit hc, fun i h3 h4 => by omega⟩
    · have hf : (atD d k).2 = false := by simpa using hc
      have hne : k ≠ d.2 := fun e => by rw [e, at_self hd] at hc; exact hc rfl
      obtain ⟨j, j1, j2, j3, j4, j5⟩ := ih (k + 1) (by omega) (by omega) (by omega)
      exact ⟨j, by omega, j2, j3, by rw [low_miss hf]; exact j4, fun i h3 h4 => by
        rcases Int.lt_or_eq_of_le h3 with h | rfl
        · exact j5 i (by omega) h4
        · exact hf⟩
theorem low_is_at {d : DI} (hd : okD d = true) : ∃ j, 0 ≤ j ∧ j ≤ d.2 ∧ (atD d j).2 = true ∧ lowD d = (atD d j).1 ∧ ∀ i, 0 ≤ i → i < j → (atD d i).2 = false :=
  low_from hd 31 0 (Int.le_refl _) (partsD hd).lo (by have := (partsD hd).hi; omega)
theorem lowD_ok {d : DI} (hd : okD d = true) : okD (lowD d) = true ∧ (lowD d).2 ≤ d.2 ∧ liftD (lowD d) d.2 = numD d ∧ atD (lowD d) d.2 = (d, true) := by
  obtain ⟨j, _, j2, j3, j4, _⟩ := low_is_at hd
  obtain ⟨k1, k2, k3⟩ := at_parts hd j3 j2
  rw [j4]
  exact ⟨k1, by rw [k2]; exact j2, k3, at_back hd k1 (by rw [k2]; exact j2) k3⟩
theorem atD_sz (d : DI) (k : Int) : szD (atD d k).1 ≤ 1048576 := by
  unfold atD
  split
  · split
    · exact decZ_sz _ _
    · split
      · exact decZ_sz _ _
      · decide
  · decide
theorem zeroD_sz : szD zeroD ≤ 1048576 := by decide
theorem lowD_sz (d : DI) : szD (lowD d) ≤ 1048576 := by
  by_cases h : okD d = true
  · obtain ⟨j, _, _, _, j4, _⟩ := low_is_at h
    rw [j4]
    exact atD_sz d j
  · unfold lowD
    rw [low_bad h]
    exact zeroD_sz
theorem addD_sz (d e : DI) : szD (addD d e).1 ≤ 1048576 := by unfold addD; split; exact decZ_sz _ _; exact zeroD_sz
theorem subD_sz (d e : DI) : szD (subD d e).1 ≤ 1048576 := by unfold subD; split; exact decZ_sz _ _; exact zeroD_sz
theorem mulD_sz (d e : DI) : szD (mulD d e).1 ≤ 1048576 := by unfold mulD; split; exact decZ_sz _ _; exact zeroD_sz
end Go.Proofs.Ytofehcpapdlcnaa
