/-
  Decimal numbers as package impl reckons them: a rounded quotient, a scale by rounding and comparing, the smallest scale by counting zeros.
  What calls of chapter 7 answer.
  Chapter 7: the modes, their names and impl's table of them.
  Chapter 7: results that lie in their boxes; quotient and rest of a fraction; sums of limbs.
  Chapter 8 of package spec: DecAdd, DecSub, DecMul, DecCmp.
  Chapter 8 of package both: words of DecRat, RatDec, DecDiv.
  Chapter 8 of package impl: what its functions return that need no fractions.
  Chapter 8 of package impl: DecAdd, DecSub, DecMul, DecCmp.
  Chapter 7 of package impl: what its functions return.
  Chapter 8 of package impl: DecRat, RatDec, DecDiv, DecAt, DecLow.
  Chapter 6 of package spec: RatMake, RatInt, RatZero, RatCmp and RatSign.
  Chapter 6 of package spec: sums of fractions.
  What RatNeg of package spec returns.
  Chapter 7 of package spec: what its functions return.
  Chapter 8 of package spec: DecRat, RatDec, DecDiv, DecAt, DecLow.
  Tables of rates: what laws.markRates marks, and that laws.heldRates finds it again; new tables in their boxes.
  What laws.eqStringS, markStringS and heldStringS return, for slices of strings that read as lists.
  What NatDigits and NatText of package impl return.
  A part of a text, as a list of bytes.
  Numbers that are read from texts, in plain words.
  Chapter 5, signed numbers and their texts, in both packages.
  Plain facts: a short signed number is read back from its text.
  Texts of decimal numbers: what DecText writes, what TextDec reads, and that each undoes the other.
-/
import Derived.Laws.EntriesVeiled
import Derived.Deep.RegionHeld3
import Derived.IntWalk
import Derived.Shelf.Abstract
import Derived.Deep.DeepCutAuto
import Derived.Laws.OwnMore
import Derived.Deep.RegionLaw
import Derived.Deep.AppendLies
import Derived.Test.YtbpfabicampdkaaGreatDoorJB9
namespace Go.Proofs.YtbpfabicampdkaaGreatDoor
open Go.RowKit

/-- a rounded quotient comes as this signed number -/
theorem tenS_fine (k : Int) : okS (tenS k) = true ∧ (tenS k).2.length ≤ 50 := by
  by_cases h : 0 ≤ k ∧ k ≤ 449
  · have hl := tenN_len k
    have e : tenN k = limbs (10 ^ k.toNat) := by unfold tenN; rw [if_pos h]
    refine ⟨?_, hl⟩
    unfold okS tenS
    show (natOkB (tenN k) && (!false || _)) = true
    rw [e, limbs_okL _ (by rw [← e]; exact hl)]
    rfl
  · have e : tenN k = [] := by unfold tenN; rw [if_neg h]
    unfold tenS
    rw [e]
    decide
theorem mulS_ofZ {x : SI} (h : okS x = true) (k : Int) : mulS x (tenS k) = ofZ (valS x * valS (tenS k)) := by
  unfold mulS
  rw [if_pos ⟨h, (tenS_fine k).1⟩]
theorem impl_ratDec {r : QI} {k m : Int} (h : okQ r = true) (hm : modeB m = true) :
    decD (mkS (mulS r.1 (tenS k)).1 (quoL (mulS r.1 (tenS k)).1 (nval (mulS r.1 (tenS k)).2).toNat (denQ r) m)) k = ratDecD r k m := by
  by_cases hk : 0 ≤ k ∧ k ≤ 30
  · have p := parts_of h
    have t := tenS_ok hk.1 hk.2
    have e := mulS_ofZ p.okn k
    have hlt := scaled_lt h hk.2
    have hP := pt_pos k
    have hpn := pt_nat k
    have hab : (valS r.1 * valS (tenS k)).natAbs = topN r * 10 ^ k.toNat := by
      rw [Int.natAbs_mul, t.2.1, ← hpn, Int.natAbs_natCast, ← (valS_abs r.1 (okS_parts p.okn).1).symm]
      rfl
    have h22 : bp 22 ≤ bp 50 := bp_mono (by omega)
    have f := ofZ_few (z := valS r.1 * valS (tenS k)) (k := 50) (by omega) (by omega)
    have hn : (nval (mulS r.1 (tenS k)).2).toNat = topN r * 10 ^ k.toNat := by
      rw [e, ← valS_abs _ (okS_parts f.1).1, f.2, hab]
    have hs : (mulS r.1 (tenS k)).1 = r.1.1 := by
      rw [e, okS_sign f.1, f.2, okS_sign p.okn, t.2.1, decide_eq_decide]
      constructor
      · intro h1
        rcases (by omega : valS r.1 < 0 ∨ 0 ≤ valS r.1) with h2 | h2
        · exact h2
        · have := Int.mul_nonneg h2 (Int.le_of_lt hP); omega
      · intro h1
        exact Int.mul_neg_of_neg_of_pos h1 hP
    rw [hn, hs]
    have h3 := scaledN_lt h m hk.2
    have h4 : ((topN r * 10 ^ k.toNat / denQ r : Nat) : Int) < bp 22 := by
      have := Nat.div_le_self (topN r * 10 ^ k.toNat) (denQ r)
      omega
    have h5 : bp 22 < bp 23 := bp_step 22
    have h6 : bp 23 ≤ bp 50 := bp_mono (by omega)
    rw [quoL_is (by omega)]
    exact ratDec_is h hk.1 hk.2 hm
  · unfold ratDecD
    rw [if_neg (fun e => hk e.2.1)]
    unfold decD
    rw [if_neg]
    intro ho
    have q := partsD ho
    exact hk ⟨q.lo, q.hi⟩
theorem divQ_none {r s : QI} (h : (divQ r s).2 = false) : (divQ r s).1 = zeroQ := by
  unfold divQ at h ⊢
  split at h
  · rename_i hc
    rw [if_pos hc]
    unfold lowQ at h ⊢
    split at h
    · exact absurd (show true = false from h) (by decide)
    · rename_i hd
      rw [if_neg hd]
  · rename_i hc
    rw [if_neg hc]
theorem zeroQ_bad : okQ zeroQ = false := by decide
theorem ratDecD_bad {r : QI} {k m : Int} (h : ¬ okQ r = true) : ratDecD r k m = (zeroD, false) := by
  unfold ratDecD
  rw [if_neg (fun e => h e.1)]
theorem divD_impl (d e : DI) (k m : Int) : ratDecD (divQ (ratD d) (ratD e)).1 k m = divD d e k m := by
  unfold divD
  by_cases h : (divQ (ratD d) (ratD e)).2 = true
  · rw [if_pos h]
  · rw [if_neg h, divQ_none (by simpa using h), ratDecD_bad (by rw [zeroQ_bad]; decide)]

/-! ### another scale, by rounding and comparing -/
theorem rat_cross {d : DI} (hd : okD d = true) : numQ (ratD d) * pt d.2 = numD d * denQ (ratD d) := by
  have b := ten_bd hd
  have v := b.2.2
  have n1 := rat_ne (pt_pos d.2)
  have n2 := rat_ne b.2.1.pos
  unfold ratV at v
  have : (numQ (ratD d) : Rat) * (pt d.2 : Rat) = (numD d : Rat) * ((denQ (ratD d) : Int) : Rat) := by grind
  exact_mod_cast this
theorem num_sign {r : QI} (h : okQ r = true) : (r.1.1 = true → numQ r = -(topN r : Int)) ∧ (r.1.1 = false → numQ r = topN r) := by
  have t := (parts_of h).top
  constructor
  · intro e; rw [t, if_pos e]
  · intro e; rw [t, if_neg (by rw [e]; decide)]
/-- cut off towards zero -/
theorem scaled_cut {d : DI} (hd : okD d = true) {k : Int} : scaledN (ratD d) k 0 = (numD d).natAbs * 10 ^ k.toNat / 10 ^ d.2.toNat := by
  have ok := (ten_bd hd).2.1.ok
  have hD := denQ_pos ok
  have hc := rat_cross hd
  have ht := abs_top ok
  have hp : 0 < 10 ^ d.2.toNat := Nat.pow_pos (by omega)
  have hA : topN (ratD d) * 10 ^ d.2.toNat = (numD d).natAbs * denQ (ratD d) := by
    have := congrArg Int.natAbs hc
    rw [Int.natAbs_mul, Int.natAbs_mul, ← ht, ← pt_nat, Int.natAbs_natCast, Int.natAbs_natCast] at this
    exact this
  have e0 : scaledN (ratD d) k 0 = topN (ratD d) * 10 ^ k.toNat / denQ (ratD d) := by
    unfold scaledN roundN
    rw [if_neg (fun h => absurd (show false = true from h.2) (by decide)), Nat.add_zero]
  rw [e0, ← Nat.mul_div_mul_right _ (denQ (ratD d)) hp]
  have e1 : topN (ratD d) * 10 ^ k.toNat * 10 ^ d.2.toNat = (numD d).natAbs * 10 ^ k.toNat * denQ (ratD d) := by
    rw [Nat.mul_right_comm, hA]
    exact Nat.mul_right_comm ..
  rw [e1, Nat.mul_comm (denQ (ratD d)) (10 ^ d.2.toNat)]
  exact Nat.mul_div_mul_right _ _ hD
theorem neg_num {d : DI} (hd : okD d = true) : ((ratD d).1.1 = true → numD d ≤ 0) ∧ ((ratD d).1.1 = false → 0 ≤ numD d) := by
  have ok := (ten_bd hd).2.1.ok
  have hD : (0 : Int) < denQ (ratD d) := by have := denQ_pos ok; omega
  have hc := rat_cross hd
  have hs := num_sign ok
  have hP := pt_pos d.2
  constructor
  · intro e
    rw [hs.1 e] at hc
    rcases (by omega : 0 < numD d ∨ numD d ≤ 0) with h | h
    · have h1 := Int.mul_pos h hD
      have h2 : -(topN (ratD d) : Int) * pt d.2 ≤ 0 := by
        rw [Int.neg_mul]
        have := Int.mul_nonneg (Int.natCast_nonneg (topN (ratD d))) (Int.le_of_lt hP)
        omega
      omega
    · exact h
  · intro e
    rw [hs.2 e] at hc
    rcases (by omega : numD d < 0 ∨ 0 ≤ numD d) with h | h
    · have h1 := Int.mul_neg_of_neg_of_pos h hD
      have h2 := Int.mul_nonneg (Int.natCast_nonneg (topN (ratD d))) (Int.le_of_lt hP)
      omega
    · exact h
theorem pow_split {j k : Int} (h0 : 0 ≤ j) (h1 : j ≤ k) : 10 ^ k.toNat = 10 ^ j.toNat * 10 ^ (k - j).toNat := by
  rw [← Nat.pow_add]
  congr 1
  omega
/-- the way up -/
theorem scaled_up {d : DI} (hd : okD d = true) {k : Int} (hk : d.2 ≤ k) : scaledZ (ratD d) k 0 = liftD d k := by
  have hp := partsD hd
  have hlo := hp.lo
  have e := scaled_cut hd (k := k)
  have hpp : 0 < 10 ^ d.2.toNat := Nat.pow_pos (by omega)
  rw [pow_split hlo hk, Nat.mul_left_comm, Nat.mul_div_cancel_left _ hpp] at e
  have hn := neg_num hd
  unfold scaledZ
  have hc : (((numD d).natAbs * 10 ^ (k - d.2).toNat : Nat) : Int) = ((numD d).natAbs : Int) * pt (k - d.2) := by rw [Int.natCast_mul, pt_nat]
  rw [e, hc]
  unfold liftD
  cases hs : (ratD d).1.1 with
  | true =>
    have h0 := hn.1 hs
    rw [if_pos rfl, show ((numD d).natAbs : Int) = -(numD d) by omega, Int.neg_mul, Int.neg_neg]
  | false =>
    have h0 := hn.2 hs
    rw [if_neg (by decide), show ((numD d).natAbs : Int) = numD d by omega]
/-- and down -/
theorem scaled_down {d : DI} (hd : okD d = true) {k : Int} (h0 : 0 ≤ k) (hk : k < d.2) :
    ((scaledZ (ratD d) k 0).natAbs : Int) < bp 6 ∧ (numD d % pt (d.2 - k) = 0 → scaledZ (ratD d) k 0 = numD d / pt (d.2 - k)) ∧ (scaledZ (ratD d) k 0 * pt (d.2 - k) = numD d → numD d % pt (d.2 - k) = 0) := by
  have hp := partsD hd
  have e := scaled_cut hd (k := k)
  have hpp : 0 < 10 ^ k.toNat := Nat.pow_pos (by omega)
  have hT := pt_pos (d.2 - k)
  rw [pow_split h0 (Int.le_of_lt hk), Nat.mul_comm, Nat.mul_div_mul_left _ _ hpp] at e
  have hn := neg_num hd
  have hle := Nat.div_le_self (numD d).natAbs (10 ^ (d.2 - k).toNat)
  have hlt := num_lt hp
  have hz : scaledZ (ratD d) k 0 = if (ratD d).1.1 = true then -((((numD d).natAbs / 10 ^ (d.2 - k).toNat : Nat)) : Int) else (((numD d).natAbs / 10 ^ (d.2 - k).toNat : Nat) : Int) := by
    unfold scaledZ
    rw [e]
  have hdiv : (((numD d).natAbs / 10 ^ (d.2 - k).toNat : Nat) : Int) = ((numD d).natAbs : Int) / pt (d.2 - k) := by rw [Int.natCast_ediv, pt_nat]
  refine ⟨by rw [hz]; split <;> omega, fun hm => ?_, fun hm => by rw [← hm]; exact Int.mul_emod_left _ _⟩
  have hdv : pt (d.2 - k) ∣ numD d := Int.dvd_of_emod_eq_zero hm
  rw [hz, hdiv]
  cases hs : (ratD d).1.1 with
  | true =>
    have h1 := hn.1 hs
    rw [if_pos rfl, show ((numD d).natAbs : Int) = -(numD d) by omega, Int.neg_ediv_of_dvd hdv, Int.neg_neg]
  | false =>
    have h1 := hn.2 hs
    rw [if_neg (by decide), show ((numD d).natAbs : Int) = numD d by omega]
theorem mode_zero : modeB 0 = true := by decide
theorem cmpI_zero_iff (x y : Int) : cmpI x y = 0 ↔ x = y := by unfold cmpI; split <;> (try split) <;> omega
/-- DecAt as package impl reckons it -/
theorem at_rat (d : DI) (k : Int) : (if (ratDecD (ratD d) k 0).2 = true ∧ cmpD (ratDecD (ratD d) k 0).1 d = 0 then ((ratDecD (ratD d) k 0).1, true) else (zeroD, false)) = atD d k := by
  by_cases hd : okD d = true
  · by_cases hk : 0 ≤ k ∧ k ≤ 30
    · have ok := (ten_bd hd).2.1.ok
      have hp := partsD hd
      have e : ratDecD (ratD d) k 0 = decZ (scaledZ (ratD d) k 0) k := by unfold ratDecD; rw [if_pos ⟨ok, hk, mode_zero⟩]
      have ea : atD d k = if d.2 ≤ k then decZ (liftD d k) k else if numD d % pt (d.2 - k) = 0 then decZ (numD d / pt (d.2 - k)) k else (zeroD, false) := by unfold atD; rw [if_pos ⟨hd, hk.1, hk.2⟩]
      rw [e]
      by_cases hs : d.2 ≤ k
      · rw [if_pos hs] at ea
        rw [ea, scaled_up hd hs]
        by_cases hz : (decZ (liftD d k) k).2 = true
        · have b := decZ_parts hz
          have y := decZ_yes b.1 b.2.1 b.2.2
          have hc : cmpD (ofZ (liftD d k), k) d = 0 := by
            unfold cmpD
            rw [if_pos ⟨y.2.1, hd⟩, cmpI_zero_iff]
            have et : topD (ofZ (liftD d k), k) d = k := by unfold topD; rw [if_neg (by show ¬ k < d.2; omega)]
            rw [et]
            show numD (ofZ (liftD d k), k) * pt (k - k) = _
            rw [y.2.2, Int.sub_self, pt_zero, Int.mul_one]
          rw [y.1]
          exact if_pos ⟨rfl, hc⟩
        · have ef : decZ (liftD d k) k = (zeroD, false) := by
            unfold decZ at hz ⊢
            split at hz
            · exact absurd rfl hz
            · rename_i hn; rw [if_neg hn]
          rw [ef]
          exact if_neg (fun h => absurd h.1 (by decide))
      · rw [if_neg hs] at ea
        rw [ea]
        clear ea
        have sd := scaled_down hd hk.1 (by omega)
        have y := decZ_yes sd.1 hk.1 hk.2
        have et : topD (ofZ (scaledZ (ratD d) k 0), k) d = d.2 := by unfold topD; rw [if_pos (by show k < d.2; omega)]
        have hc : cmpD (ofZ (scaledZ (ratD d) k 0), k) d = 0 ↔ scaledZ (ratD d) k 0 * pt (d.2 - k) = numD d := by
          unfold cmpD
          rw [if_pos ⟨y.2.1, hd⟩, cmpI_zero_iff, et]
          show numD (ofZ (scaledZ (ratD d) k 0), k) * pt (d.2 - k) = numD d * pt (d.2 - d.2) ↔ _
          rw [y.2.2, Int.sub_self, pt_zero, Int.mul_one]
        by_cases hm : numD d % pt (d.2 - k) = 0
        · have e3 := sd.2.1 hm
          have hc0 := hc.2 (by rw [e3]; exact Int.ediv_mul_cancel (Int.dvd_of_emod_eq_zero hm))
          rw [if_pos hm, ← e3, y.1]
          exact if_pos ⟨rfl, hc0⟩
        · rw [if_neg hm, y.1]
          exact if_neg (fun h => hm (sd.2.2 (hc.1 h.2)))
    · have e : ratDecD (ratD d) k 0 = (zeroD, false) := by unfold ratDecD; rw [if_neg (fun h => hk h.2.1)]
      have a1 : ¬ ((zeroD, false).2 = true ∧ cmpD (zeroD, false).1 d = 0) := fun h => absurd h.1 (by decide)
      rw [e, if_neg a1]
      unfold atD
      rw [if_neg (fun h => hk h.2)]
  · have e : ratDecD (ratD d) k 0 = (zeroD, false) := by rw [rat_bad hd]; exact ratDecD_bad (by rw [zeroQ_bad]; decide)
    have a1 : ¬ ((zeroD, false).2 = true ∧ cmpD (zeroD, false).1 d = 0) := fun h => absurd h.1 (by decide)
    rw [e, if_neg a1]
    unfold atD
    rw [if_neg (fun h => hd h.1)]

/-! ### the smallest scale, by counting zeros -/
theorem ten_split (n : Nat) (h : 0 < n) : ∃ X, n = 10 ^ zN n * X ∧ X % 10 ≠ 0 := by
  induction n using Nat.strongRecOn with
  | _ n ih =>
    by_cases h10 : n % 10 = 0
    · have hm : n = 10 * (n / 10) := by omega
      have hm0 : 0 < n / 10 := by omega
      obtain ⟨X, h1, h2⟩ := ih (n / 10) (by omega) hm0
      refine ⟨X, ?_, h2⟩
      have hz := zN_ten (n / 10) hm0
      rw [← hm] at hz
      rw [hz, Nat.pow_succ, Nat.mul_right_comm, ← h1]
      omega
    · refine ⟨n, ?_, h10⟩
      rw [zN_end n h10, Nat.pow_zero, Nat.one_mul]
theorem ten_dvd {n : Nat} (h : 0 < n) (j : Nat) : 10 ^ j ∣ n ↔ j ≤ zN n := by
  obtain ⟨X, h1, h2⟩ := ten_split n h
  constructor
  · intro hd
    rcases Nat.lt_or_ge (zN n) j with hlt | hge
    · exfalso
      have h3 : 10 ^ (zN n + 1) ∣ n := Nat.dvd_trans (Nat.pow_dvd_pow 10 hlt) hd
      have h4 : 10 ^ zN n * 10 ∣ 10 ^ zN n * X := by rw [← Nat.pow_succ, ← h1]; exact h3
      have h5 := Nat.dvd_of_mul_dvd_mul_left (Nat.pow_pos (by omega)) h4
      omega
    · exact hge
  · intro hj
    rw [h1]
    exact Nat.dvd_trans (Nat.pow_dvd_pow 10 hj) (Nat.dvd_mul_right _ _)
theorem at_iff {d : DI} (hd : okD d = true) {j : Int} (h0 : 0 ≤ j) (h1 : j ≤ d.2) : (atD d j).2 = true ↔ numD d % pt (d.2 - j) = 0 := by
  have p := partsD hd
  have hi := p.hi
  by_cases hj : d.2 ≤ j
  · obtain rfl : j = d.2 := by omega
    rw [at_self hd, Int.sub_self, pt_zero, Int.emod_one]
    simp
  · unfold atD
    rw [if_pos ⟨hd, h0, by omega⟩, if_neg hj]
    have hlt := num_lt p
    constructor
    · intro h
      by_cases hm : numD d % pt (d.2 - j) = 0
      · exact hm
      · rw [if_neg hm] at h
        exact absurd (show false = true from h) (by decide)
    · intro hm
      rw [if_pos hm]
      have sd := scaled_down hd h0 (by omega)
      rw [sd.2.1 hm] at sd
      rw [(decZ_yes sd.1 h0 (by omega)).1]
/-- the scale that package impl asks for -/
def lowK (d : DI) : Int := if cmpS d.1 zeroS = 0 then 0 else if d.2 < zerosN d.1.2 then 0 else d.2 - zerosN d.1.2
theorem low_impl (d : DI) : (atD d (lowK d)).1 = lowD d := by
  by_cases hd : okD d = true
  · obtain ⟨j, j0, j1, j2, j3, j4⟩ := low_is_at hd
    have p := partsD hd
    have hp := okS_parts p.ok
    rw [j3]
    congr 1
    rw [show lowK d = j from ?_]
    have hj := (at_iff hd j0 j1).1 j2
    have hmin : ∀ i, 0 ≤ i → i ≤ d.2 → numD d % pt (d.2 - i) = 0 → j ≤ i := fun i i0 i1 hi => by
      rcases (by omega : i < j ∨ j ≤ i) with h | h
      · have := j4 i i0 h
        rw [(at_iff hd i0 i1).2 hi] at this
        exact absurd this (by decide)
      · exact h
    have hc : cmpS d.1 zeroS = 0 ↔ numD d = 0 := by
      unfold cmpS
      rw [if_pos ⟨p.ok, zeroS_ok⟩, cmpI_zero_iff, zeroS_val]
      exact Iff.rfl
    unfold lowK
    by_cases h0 : numD d = 0
    · rw [if_pos (hc.2 h0)]
      have := hmin 0 (Int.le_refl _) p.lo (by rw [h0]; exact Int.zero_emod _)
      omega
    · rw [if_neg (fun h => h0 (hc.1 h))]
      have hab := valS_abs d.1 hp.1
      have hn0 : 0 < (nval d.1.2).toNat := by
        have : (numD d).natAbs = (nval d.1.2).toNat := hab
        omega
      have hl : 0 < d.1.2.length := by
        rcases Nat.eq_zero_or_pos d.1.2.length with h | h
        · have e : d.1.2 = [] := List.eq_nil_of_length_eq_zero h
          rw [e] at hn0
          exact absurd hn0 (by decide)
        · exact h
      rw [zerosN_zN hp.1 hl]
      have key : ∀ t : Int, 0 ≤ t → (numD d % pt t = 0 ↔ t ≤ zN (nval d.1.2).toNat) := fun t ht => by
        have h1 := ten_dvd hn0 t.toNat
        have h2 : numD d % pt t = 0 ↔ 10 ^ t.toNat ∣ (nval d.1.2).toNat := by
          rw [← pt_nat, ← hab]
          constructor
          · intro h
            exact Int.ofNat_dvd_left.1 (Int.dvd_of_emod_eq_zero h)
          · intro h
            exact Int.emod_eq_zero_of_dvd (Int.ofNat_dvd_left.2 h)
        rw [h2, h1]
        omega
      have k1 := (key (d.2 - j) (by omega)).1 hj
      split
      · rename_i hs
        have := hmin 0 (Int.le_refl _) p.lo ((key _ (by have := p.lo; omega)).2 (by omega))
        omega
      · rename_i hs
        have := hmin (d.2 - zN (nval d.1.2).toNat) (by omega) (by omega) ((key _ (by omega)).2 (by omega))
        omega
  · have e : ∀ k, (atD d k).1 = zeroD := fun k => by unfold atD; rw [if_neg (fun h => hd h.1)]
    rw [e]
    unfold lowD
    rw [low_bad hd]
end Go.Proofs.YtbpfabicampdkaaGreatDoor

namespace Go.Proofs.YtbpfabicampdkaaGreatDoor
open Go.RowKit

/-- what a call answers: a new signed number and a bool; a new signed number, a new fraction and a bool -/
def PostSb (R0 : SI) (R1 : Bool) (w : World) (e : Ending) (w' : World) : Prop :=
  ∃ (v : Value) (S : List Nat), e = .returned (.tuple #[v, .bool R1]) ∧ At S (OwnS v R0) w' ∧ Within S w.heap.size w'.heap.size ∧ Below w.heap.size w w'
def PostSQb (R0 : SI) (R1 : QI) (R2 : Bool) (w : World) (e : Ending) (w' : World) : Prop :=
  ∃ (v u : Value) (S T : List Nat), e = .returned (.tuple #[v, u, .bool R2]) ∧ At S (OwnS v R0) w' ∧ At T (OwnQ u R1) w' ∧ (∀ g ∈ S, g ∉ T) ∧ Within S w.heap.size w'.heap.size ∧ Within T w.heap.size w'.heap.size ∧ Below w.heap.size w w'
theorem postSb_eq {a r : SI} {b k : Bool} {w w' : World} {e : Ending} (h : PostSb a b w e w') (ha : a = r) (hb : b = k) : PostSb r k w e w' := by subst ha hb; exact h
end Go.Proofs.YtbpfabicampdkaaGreatDoor

namespace Go.Proofs.YtbpfabicampdkaaGreatDoor
open Go.RowKit

theorem modeB_in (m : Int) : inB m 0 6 = modeB m := rfl
/-- what a call answers that gives a string -/
def PostN (s : ByteArray) (w : World) (e : Ending) (w' : World) : Prop := e = .returned (.string s) ∧ Below w.heap.size w w'
theorem bytes_neM {a b : ByteArray} (h : ¬ a = b) : (a.toList == b.toList) = false := by
  rw [beq_eq_false_iff_ne]
  rw [ByteArray.toList_eq, ByteArray.toList_eq]
  exact fun e => h (WideShapes.bytes_inj e)
theorem bytes_eqM {a b : ByteArray} (h : a = b) : (a.toList == b.toList) = true := by subst h; exact beq_self_eq_true _
theorem below_set2M {W0 W : World} {g : Nat} {a b : Value} (h : Below W0.heap.size W0 W) (hg : W0.heap.size ≤ g) : Below W0.heap.size W0 ((W.setCell ⟨g, 0, none⟩ a).setCell ⟨g, 1, none⟩ b) := (h.setCell (p := ⟨g, 0, none⟩) hg _).setCell (p := ⟨g, 1, none⟩) hg _
end Go.Proofs.YtbpfabicampdkaaGreatDoor

namespace Go.Proofs.YtbpfabicampdkaaGreatDoor
open Go.RowKit

theorem OwnI.belowI {v : Value} {xs : List Int} {w w' : World} (h : OwnI v xs w) (hb : Below w.heap.size w w') : OwnI v xs w' := own_below h hb
theorem ownI_eq {v : Value} {xs ys : List Int} {w : World} (h : OwnI v xs w) (e : xs = ys) : OwnI v ys w := e ▸ h
theorem ownI_lim {A : Option Addr} {c : Nat} {xs ys : List Int} {w : World} (h : OwnI (.slice A xs.length c) xs w) (e : xs = ys) : OwnI (.slice A ys.length c) ys w := e ▸ h
theorem roundVS_eq {x y : SI} {w w' : World} {e : Ending} (hxy : x = y) (h : NewV (fun u => OwnS u x) w e w') : NewV (fun u => OwnS u y) w e w' := hxy ▸ h
theorem chg_set2 {r : Nat} {c0 c1 : Value} {W : World} : Chg [r] W ((W.setCell ⟨r, 0, none⟩ c0).setCell ⟨r, 1, none⟩ c1) := ((Chg.refl _ _).setCell (by simp) _).setCell (by simp) _
/-- a result that lies in its cells at block r: a new signed number, with a bool and without -/
theorem newSb_at {r B : Nat} {S : List Nat} {c0 c1 : Value} {x : SI} {b : Bool} {w W : World} (o : At S (OwnS (.agg #[c0, c1]) x) W) (l : Within S B W.heap.size) (hrB : r < B) (hr : w.heap.size ≤ r) (hW : Below w.heap.size w W) :
    PostSb x b w (.returned (.tuple #[.agg #[c0, c1], .bool b])) ((W.setCell ⟨r, 0, none⟩ c0).setCell ⟨r, 1, none⟩ c1) := by
  have hc : Chg [r] W ((W.setCell ⟨r, 0, none⟩ c0).setCell ⟨r, 1, none⟩ c1) := chg_set2
  have hz := hc.size
  exact ⟨_, S, rfl, o.chg hc (fun i hi hm => by have := l i hi; simp at hm; omega), fun i hi => by have := l i hi; omega, below_set2 hW hr⟩
theorem newS_at {r B : Nat} {S : List Nat} {c0 c1 : Value} {x : SI} {w W : World} (o : At S (OwnS (.agg #[c0, c1]) x) W) (l : Within S B W.heap.size) (hrB : r < B) (hr : w.heap.size ≤ r) (hW : Below w.heap.size w W) :
    NewV (fun v => OwnS v x) w (.returned (.agg #[c0, c1])) ((W.setCell ⟨r, 0, none⟩ c0).setCell ⟨r, 1, none⟩ c1) := by
  have hc : Chg [r] W ((W.setCell ⟨r, 0, none⟩ c0).setCell ⟨r, 1, none⟩ c1) := chg_set2
  have hz := hc.size
  exact ⟨_, S, rfl, o.chg hc (fun i hi hm => by have := l i hi; simp at hm; omega), fun i hi => by have := l i hi; omega, below_set2 hW hr⟩
theorem ownS_zero (w : World) : OwnS (.agg #[.bool false, .slice none 0 0]) zeroS w := ⟨_, rfl, World.ownsRow_nil _ _ _ _⟩
theorem newSb_zero {w W : World} (b : Bool) (hW : Below w.heap.size w W) : PostSb zeroS b w (.returned (.tuple #[.agg #[.bool false, .slice none 0 0], .bool b])) W :=
  ⟨_, [], rfl, ⟨ownS_zero _, fun _ hg => absurd hg List.not_mem_nil, fun w' _ => ownS_zero w'⟩, fun _ hg => absurd hg List.not_mem_nil, hW⟩
/-- quotient and rest -/
theorem quot_rest {r : QI} : (nval r.1.2 / nval r.2).toNat = (topN r / denQ r : Nat) ∨ ¬ okQ r = true := by
  by_cases h : okQ r = true
  · have p := parts_of h
    refine .inl ?_
    rw [p.n, p.d, limbs_val, limbs_val]
    exact div_toNat _ _
  · exact .inr h
theorem quot_of {r : QI} (h : okQ r = true) : (nval r.1.2 / nval r.2).toNat = topN r / denQ r := by
  have p := parts_of h
  rw [p.n, p.d, limbs_val, limbs_val]
  exact div_toNat _ _
theorem rest_of {r : QI} (h : okQ r = true) : (nval r.1.2 % nval r.2).toNat = topN r % denQ r := by
  have p := parts_of h
  rw [p.n, p.d, limbs_val, limbs_val, ← Int.natCast_emod]
  exact Int.toNat_natCast _
/-- sizes of quotient and rest -/
theorem quot_len {r : QI} (h : okQ r = true) : (limbs (topN r / denQ r)).length ≤ 18 := limbs_length_le _ 18 (by
  have p := (parts_of h).nlt
  have := Nat.div_le_self (topN r) (denQ r)
  omega)
theorem rest_len {r : QI} (h : okQ r = true) : (limbs (topN r % denQ r)).length ≤ 18 := limbs_length_le _ 18 (by
  have p := (parts_of h).dlt
  have := Nat.mod_lt (topN r) (denQ_pos h)
  omega)
theorem even_limbs {k : Nat} (h : (limbs k).length ≤ 50) : evenB (limbs k) = decide (k % 2 = 0) := by
  unfold evenB
  rw [limbs_okL _ h, Bool.true_and]
  have e : (limbs k).headD 0 % 2 = ((k % 2 : Nat) : Int) := by
    by_cases h : k = 0
    · subst h; rw [limbs, dif_pos rfl]; rfl
    · rw [limbs, dif_neg h]
      show ((k % 1000000000 : Nat) : Int) % 2 = _
      omega
  rw [e, decide_eq_decide]
  omega
theorem round_plain {r : QI} {m : Int} (h : topN r % denQ r = 0 ∨ awayB r.1.1 (topN r / denQ r) (topN r % denQ r) (denQ r) m = false) : mkS r.1.1 (limbs (topN r / denQ r)) = roundS r m := by
  unfold roundS roundN
  rw [if_neg (fun e => by rcases h with h | h; exact e.1 h; rw [h] at e; exact absurd e.2 (by decide)), Nat.add_zero]
theorem round_more {r : QI} {m : Int} (h : topN r % denQ r ≠ 0) (ha : awayB r.1.1 (topN r / denQ r) (topN r % denQ r) (denQ r) m = true) : mkS r.1.1 (limbs (topN r / denQ r + 1)) = roundS r m := by
  unfold roundS roundN
  rw [if_pos ⟨h, ha⟩]
theorem one_more (Q : Nat) : trimL (addL (limbs Q) [1] 0) = limbs (Q + 1) := by
  have h := addL_val (limbs Q) [1] 0 (limbs_digN Q) (by rw [← one_limbs]; exact limbs_digN 1) (by omega) (by omega)
  rw [trim_limbs _ h.2.1, h.1, limbs_val]
  have : nval [1] = 1 := rfl
  rw [this, show ((Q : Int) + 1 + 0).toNat = Q + 1 by omega]
theorem twice_len {R : Nat} (h : (limbs R).length ≤ 18) : (addL (limbs R) (limbs R) 0).length ≤ 40 ∧ DigN (addL (limbs R) (limbs R) 0) ∧ (addL (limbs R) (limbs R) 0).getLastD 1 ≠ 0 ∧ nval (addL (limbs R) (limbs R) 0) = (R : Int) + R + 0 := by
  have hs := addL_val (limbs R) (limbs R) 0 (limbs_digN R) (limbs_digN R) (by omega) (by omega)
  rw [limbs_val] at hs
  exact ⟨by omega, hs.2.1, addL_last _ _ _ (limbs_digN R) (limbs_digN R) (by omega) (by omega) (limbs_lastN R) (limbs_lastN R), hs.1⟩
theorem awayB_0 (neg : Bool) (Q R D : Nat) : awayB neg Q R D 0 = false := rfl
theorem awayB_1 (neg : Bool) (Q R D : Nat) : awayB neg Q R D 1 = true := rfl
theorem awayB_2 (neg : Bool) (Q R D : Nat) : awayB neg Q R D 2 = neg := rfl
theorem awayB_3 (neg : Bool) (Q R D : Nat) : awayB neg Q R D 3 = !neg := rfl
theorem awayB_4 (neg : Bool) (Q R D : Nat) : awayB neg Q R D 4 = decide (D < 2 * R) := rfl
theorem awayB_5 (neg : Bool) (Q R D : Nat) : awayB neg Q R D 5 = decide (D ≤ 2 * R) := rfl
theorem awayB_6 (neg : Bool) (Q R D : Nat) : awayB neg Q R D 6 = (decide (D < 2 * R) || (decide (2 * R = D) && decide (Q % 2 = 1))) := rfl
/-- the modes that look at the half, by how twice the rest compares with the denominator -/
theorem away_cmp (neg : Bool) (Q R D : Nat) {c : Int} (h : cmpI ((R : Int) + R + 0) D = c) : awayB neg Q R D 4 = decide (0 < c) ∧ awayB neg Q R D 5 = decide (0 ≤ c) ∧ awayB neg Q R D 6 = (decide (0 < c) || (decide (c = 0) && decide (Q % 2 = 1))) := by
  have t := twice_cmp R D
  rw [h] at t
  rw [awayB_4, awayB_5, awayB_6, decide_eq_decide.2 t.1, decide_eq_decide.2 t.2.1, decide_eq_decide.2 t.2.2]
  exact ⟨rfl, rfl, rfl⟩
theorem cmp_three (x y : Int) : cmpI x y = -1 ∨ cmpI x y = 0 ∨ cmpI x y = 1 := by unfold cmpI; split; exact .inl rfl; split; exact .inr (.inr rfl); exact .inr (.inl rfl)
theorem den_cmp {r : QI} {n : Int} (ok : okQ r = true) : decide ((denQ r : Int) = n) = (cmpI (nval r.2) n == 0) := by
  have e : nval r.2 = (denQ r : Int) := by
    have p := (parts_of ok).d
    unfold denQ
    rw [p, limbs_val, Int.toNat_natCast]
  rw [e, Bool.eq_iff_iff, decide_eq_true_eq, beq_iff_eq]
  unfold cmpI
  split
  · omega
  · split <;> omega
theorem wholeB_cmp {r : QI} (ok : okQ r = true) : wholeB r = (cmpI (nval r.2) (nval [1]) == 0) := by
  rw [← den_cmp ok]
  unfold wholeB
  rw [ok, Bool.true_and, decide_eq_decide]
  show _ ↔ (denQ r : Int) = 1
  omega
theorem halfB_cmp {r : QI} (ok : okQ r = true) : halfB r = (cmpI (nval r.2) (nval [2]) == 0) := by
  rw [← den_cmp ok]
  unfold halfB
  rw [ok, Bool.true_and, decide_eq_decide]
  show _ ↔ (denQ r : Int) = 2
  omega
theorem dig_1 : DigN [1] := by rw [← one_limbs]; exact limbs_digN 1
theorem two_limbs : limbs 2 = [2] := by rw [limbs, dif_neg (by decide), limbs, dif_pos (by decide)]; rfl
theorem dig_2 : DigN [2] := by rw [← two_limbs]; exact limbs_digN 2
theorem limbs_none_iff {n : Nat} : (limbs n).length = 0 ↔ n = 0 := limbs_zero_iff n
end Go.Proofs.YtbpfabicampdkaaGreatDoor

namespace Go.Proofs.YtbpfabicampdkaaGreatDoor
open Go.RowKit

/-- what a call answers: two new signed numbers (and an int) -/
def PostSS (X Y : SI) (w : World) (e : Ending) (w' : World) : Prop :=
  ∃ (u v : Value) (S T : List Nat), e = .returned (.tuple #[u, v]) ∧ At S (OwnS u X) w' ∧ At T (OwnS v Y) w' ∧ Within S w.heap.size w'.heap.size ∧ Within T w.heap.size w'.heap.size ∧ Below w.heap.size w w'
def PostSSn (X Y : SI) (n : Int) (w : World) (e : Ending) (w' : World) : Prop :=
  ∃ (u v : Value) (S T : List Nat), e = .returned (.tuple #[u, v, .int .i64 n]) ∧ At S (OwnS u X) w' ∧ At T (OwnS v Y) w' ∧ Within S w.heap.size w'.heap.size ∧ Within T w.heap.size w'.heap.size ∧ Below w.heap.size w w'
theorem postSSn_chg {S T R : List Nat} {u v : Value} {X Y : SI} {n : Int} {w W : World} (o : At S (OwnS u X) W) (q : At T (OwnS v Y) W) (hS : ∀ i ∈ S, i ∉ R) (hT : ∀ i ∈ T, i ∉ R) (hR : ∀ i ∈ R, w.heap.size ≤ i) (lS : ∀ i ∈ S, w.heap.size ≤ i) (lT : ∀ i ∈ T, w.heap.size ≤ i) (hW : Below w.heap.size w W) :
    ∀ W', Chg R W W' → PostSSn X Y n w (.returned (.tuple #[u, v, .int .i64 n])) W' :=
  fun _ hc => ⟨u, v, S, T, rfl, o.chg hc hS, q.chg hc hT, fun i hi => ⟨lS i hi, Nat.lt_of_lt_of_le (o.lt i hi) hc.size⟩, fun i hi => ⟨lT i hi, Nat.lt_of_lt_of_le (q.lt i hi) hc.size⟩, below_chg hW hc hW.size hR⟩
theorem postSS_chg {S T R : List Nat} {u v : Value} {X Y : SI} {w W : World} (o : At S (OwnS u X) W) (q : At T (OwnS v Y) W) (hS : ∀ i ∈ S, i ∉ R) (hT : ∀ i ∈ T, i ∉ R) (hR : ∀ i ∈ R, w.heap.size ≤ i) (lS : ∀ i ∈ S, w.heap.size ≤ i) (lT : ∀ i ∈ T, w.heap.size ≤ i) (hW : Below w.heap.size w W) :
    ∀ W', Chg R W W' → PostSS X Y w (.returned (.tuple #[u, v])) W' :=
  fun _ hc => ⟨u, v, S, T, rfl, o.chg hc hS, q.chg hc hT, fun i hi => ⟨lS i hi, Nat.lt_of_lt_of_le (o.lt i hi) hc.size⟩, fun i hi => ⟨lT i hi, Nat.lt_of_lt_of_le (q.lt i hi) hc.size⟩, below_chg hW hc hW.size hR⟩
theorem newVS_eqD {x y : SI} (h : x = y) {w w' : World} {e : Ending} (k : NewV (fun v => OwnS v x) w e w') : NewV (fun v => OwnS v y) w e w' := h ▸ k
theorem newS_is {x y : SI} (h : x = y) {w w' : World} {e : Ending} (k : NewS x w e w') : NewV (fun v => OwnS v y) w e w' := by subst h; exact k.newV
/-- a number at the greater scale -/
def upS (a : DI) (s : Int) : SI := mulS a.1 (tenS (s - a.2))
theorem upS_len (a : DI) (s : Int) : (upS a s).2.length ≤ 50 := by unfold upS mulS; split; exact ofZ_len _; decide
theorem tenS_len (k : Int) : (tenS k).2.length ≤ 1048576 := by have := tenN_len k; show (tenN k).length ≤ _; omega
theorem topD_max (a b : DI) : max a.2 b.2 = topD a b := by unfold topD; split <;> omega
theorem topD_lt {a b : DI} (h : a.2 < b.2) : topD a b = b.2 := if_pos h
theorem topD_ge {a b : DI} (h : ¬ a.2 < b.2) : topD a b = a.2 := if_neg h
end Go.Proofs.YtbpfabicampdkaaGreatDoor

namespace Go.Proofs.YtbpfabicampdkaaGreatDoor
open Go.RowKit

theorem postQb_isD {q : QI × Bool} {X : QI} {b : Bool} (e : q = (X, b)) {w w' : World} {n : Ending} (h : PostQb q.1 q.2 w n w') : PostQb X b w n w' := by rw [e] at h; exact h
theorem newQ_zeroD {w W : World} (hW : Below w.heap.size w W) : NewV (fun v => OwnQ v zeroQ) w (.returned (.agg #[.bool false, .slice none 0 0, .slice none 0 0])) W :=
  ⟨_, [], rfl, ⟨ownQ_zero _, fun _ hg => absurd hg List.not_mem_nil, fun w' _ => ownQ_zero w'⟩, fun _ hg => absurd hg List.not_mem_nil, hW⟩
theorem szS_ten (k : Int) : szS (tenS k) ≤ 1048576 := by have := tenN_len k; show ((tenN k).length : Int) ≤ _; omega
theorem szS_num {a : DI} (h : a.1.2.length ≤ 1048575) : szS a.1 ≤ 1048576 := by unfold szS szI; omega
theorem newI_eqD {a b : List Int} {w w' : World} {e : Ending} (h : NewInts a w e w') (h1 : a = b) : NewInts b w e w' := by subst h1; exact h
theorem divQ_szD (x y : QI) : szQ (divQ x y).1 ≤ 1048576 := by unfold divQ; split; exact lowQ_sz _ _ _; decide
theorem newVQ_eq {a b : QI} (e : a = b) {w w' : World} {n : Ending} (h : NewV (fun v => OwnQ v a) w n w') : NewV (fun v => OwnQ v b) w n w' := e ▸ h
end Go.Proofs.YtbpfabicampdkaaGreatDoor

namespace Go.Proofs.YtbpfabicampdkaaGreatDoor
open Go.RowKit

set_option maxHeartbeats 1000000 in
set_option maxRecDepth 100000 in
theorem tenTo_any (k : Int) (w : World) : Calls Tryz.prog 53 #[.int .i64 k] w (NewV (fun u => OwnS u (tenS k)) w) := by
  have bb0 : Below w.heap.size w (w.alloc (.cells #[.bool false, .slice none 0 0] 30)) := below_al (Below.refl _ _) _
  have ko := (box_new w #[.bool false, .slice none 0 0] 30)
  have HKO := Lib.hid (ko.lt w.heap.size (by simp))
  go_enter Tryz.func53, Tryz.ntmps53
  go_wp2_with fail
  refine (implNatTen_any k _).mono ?_
  rintro e w1 ⟨v, rfl, o0, b1⟩
  obtain ⟨Af, cf, rfl⟩ := own_len o0
  have bb1 := Below.next bb0 b1
  replace ko := ko.below b1
  have of := (own_at' o0).imp (fun _ h => (OwnS.mk h : OwnS (.agg #[.bool (tenS k).1, .slice Af (tenN k).length cf]) (tenS k) _))
  have lf := own_within o0
  clear o0
  have HR := Lib.hid (newV_chg (φ := fun u => OwnS u (tenS k)) (v := .agg #[.bool false, .slice Af (tenN k).length cf]) (T := [w.heap.size]) of (fun i hi hm => by have := lf i hi; have := HKO.out; simp at hm; omega) (fun i hi => by simp at hi; omega) (fun i hi => by have := lf i hi; have := HKO.out; omega) bb1)
  have cz0 := ko.here.cell 0 _ rfl
  have fz0 := Lib.frozen_of_heap ko.here 0
  have cz1 := ko.here.cell 1 _ rfl
  have fz1 := Lib.frozen_of_heap ko.here 1
  clear of ko
  go_wp2
  refine bodyPost_ret (v := .agg #[.bool false, .slice Af (tenN k).length cf]) (by simp [results, Tryz.results53, go_sem, cz0, cz1]) rfl ?_
  refine HR.out _ ?_
  repeat (first | exact Chg.refl _ _ | refine Chg.setCell ?_ (by simp) _)
end Go.Proofs.YtbpfabicampdkaaGreatDoor

namespace Go.Proofs.YtbpfabicampdkaaGreatDoor
open Go.RowKit

end Go.Proofs.YtbpfabicampdkaaGreatDoor

namespace Go.Proofs.YtbpfabicampdkaaGreatDoor
open Go.RowKit

theorem nat_lt50 {X : Nat} (h : (limbs X).length ≤ 19) : ((X + X : Nat) : Int) < bp 50 ∧ ((X + 1 : Nat) : Int) < bp 50 := by
  have h1 := nval_lt (limbs X) (limbs_digN X)
  rw [limbs_val] at h1
  have h2 : bp (limbs X).length ≤ bp 19 := bp_mono h
  have h3 : bp 20 ≤ bp 50 := bp_mono (by omega)
  have h4 : bp 20 = 1000000000 * bp 19 := rfl
  have := bp_pos 19
  omega
theorem cmpN_limbs {X Y : Nat} (hx : (limbs X).length ≤ 50) (hy : (limbs Y).length ≤ 50) : cmpN (limbs X) (limbs Y) = cmpI X Y := by
  unfold cmpN
  rw [if_pos ⟨limbs_okL _ hx, limbs_okL _ hy⟩, limbs_val, limbs_val]
theorem divN_rat {r : QI} (h : okQ r = true) : divN r.1.2 r.2 = (limbs (topN r / denQ r), limbs (topN r % denQ r)) := by
  have p := okQ_parts h
  unfold divN
  rw [if_pos ⟨(okS_parts p.1).1, p.2.1, p.2.2.1⟩, quot_of h, rest_of h]
theorem twoRows_eq {a b c d : List Int} {w w' : World} {e : Ending} (h : TwoRows a b w e w') (h1 : a = c) (h2 : b = d) : TwoRows c d w e w' := by subst h1 h2; exact h
theorem newI_eq {a b : List Int} {w w' : World} {e : Ending} (h : NewInts a w e w') (h1 : a = b) : NewInts b w e w' := by subst h1; exact h
end Go.Proofs.YtbpfabicampdkaaGreatDoor

namespace Go.Proofs.YtbpfabicampdkaaGreatDoor
open Go.RowKit

set_option maxHeartbeats 4000000 in
set_option maxRecDepth 100000 in
theorem implDecRat_any (va : Value) (a : DI) (w : World) (hla : a.1.2.length ≤ 1048576) (ha : OwnD va a w) (hsen : Sen w) :
    Calls Tryz.prog 14 #[va] w (NewV (fun u => OwnQ u (ratD a)) w) := by
  have HS := Lib.hid hsen
  clear hsen
  have Ha := Lib.hid ha
  obtain ⟨Aa, ca, rfl⟩ := ownD_form ha
  have ODa := Lib.hid (show ∀ W, Below w.heap.size w W → OwnD (.agg #[.bool a.1.1, .slice Aa a.1.2.length ca, .int .i64 a.2]) a W from fun W hb => OwnD.below Ha.out hb)
  have OIa := Lib.hid (show ∀ W, Below w.heap.size w W → OwnI (.slice Aa a.1.2.length ca) a.1.2 W from fun W hb => ownD_open (ODa.out W hb))
  have OSa := Lib.hid (show ∀ W, Below w.heap.size w W → OwnS (.agg #[.bool a.1.1, .slice Aa a.1.2.length ca]) a.1 W from fun W hb => OwnS.mk (OIa.out W hb))
  clear ha
  have bb0 : Below w.heap.size w ((w.alloc (.cells #[.bool a.1.1, .slice Aa a.1.2.length ca, .int .i64 a.2] 39)).alloc (.cells #[.bool false, .slice none 0 0, .slice none 0 0] 32)) := below_al (below_al (Below.refl _ _) _) _
  have ka := (box_new w #[.bool a.1.1, .slice Aa a.1.2.length ca, .int .i64 a.2] 39).below (below_al (Below.refl _ _) (.cells #[.bool false, .slice none 0 0, .slice none 0 0] 32))
  have ko := (box_new (w.alloc (.cells #[.bool a.1.1, .slice Aa a.1.2.length ca, .int .i64 a.2] 39)) #[.bool false, .slice none 0 0, .slice none 0 0] 32)
  rw [show (w.alloc (.cells #[.bool a.1.1, .slice Aa a.1.2.length ca, .int .i64 a.2] 39)).heap.size = w.heap.size + 1 by simp] at ko
  have HKO := Lib.hid (ko.lt (w.heap.size + 1) (by simp))
  obtain ⟨Q, hQ⟩ : ∃ Q, ratD a = Q := ⟨_, rfl⟩
  have EQ0 := Lib.hid hQ
  rw [hQ]
  clear hQ
  go_enter Tryz.func14, Tryz.ntmps14
  have ka_c0 := ka.here.cell 0 _ rfl
  have ka_c1 := ka.here.cell 1 _ rfl
  have ka_c2 := ka.here.cell 2 _ rfl
  go_wp2_with fail
  clear ka_c0 ka_c1 ka_c2
  refine (implDecOk_any _ a _ hla (ODa.out _ bb0)).mono ?_
  rintro e w1 ⟨rfl, b1⟩
  have bb1 := Below.next bb0 b1
  replace ka := ka.below b1
  replace ko := ko.below b1
  by_cases ok : okD a = true
  · rw [ok]
    have HT := Lib.hid (ten_bd ok)
    have hl6 := (partsD ok).len
    have hzA : szS a.1 ≤ 1048576 := by unfold szS szI; omega
    have hzT := szS_ten a.2
    have EQ := Lib.hid (show makeQ a.1 (tenS a.2) = (Q, true) by rw [← EQ0.out]; exact HT.out.1)
    clear ok hl6
    have ka_c0 := ka.here.cell 0 _ rfl
    have ka_c1 := ka.here.cell 1 _ rfl
    have ka_c2 := ka.here.cell 2 _ rfl
    go_upto_region 3 with fail
    go_cut [3, 4] (fun s1 s2 wx => NewLocV 32 (fun v => OwnQ v Q) w1 s1 wx ∧ s2 = .bool true)
    case first =>
      have HC0 := Lib.hid (show Chg [] w1 w1.drew from (Chg.refl _ _).drew1)
      have HCr := Lib.hid (show Chg [] w1 w1 from Chg.refl _ _)
      have KL := Lib.hid (show ∀ W, Chg [] w1 W → W.cell? ⟨w.heap.size, 0, none⟩ = some (.bool a.1.1) ∧ W.cell? ⟨w.heap.size, 1, none⟩ = some (.slice Aa a.1.2.length ca) ∧ W.cell? ⟨w.heap.size, 2, none⟩ = some (.int .i64 a.2) ∧ Hid (Chg [] w1 W) from fun W hc => ⟨(ka.chg hc (fun i hi hm => by simp at hm)).here.cell 0 _ rfl, (ka.chg hc (fun i hi hm => by simp at hm)).here.cell 1 _ rfl, (ka.chg hc (fun i hi hm => by simp at hm)).here.cell 2 _ rfl, Lib.hid hc⟩)
      have BBF := Lib.hid (show ∀ W, Chg [] w1 W → Below w.heap.size w W from fun W hc => below_chg bb1 hc bb1.size (fun i hi => by simp at hi))
      clear ka_c0 ka_c1 ka_c2
      go_region_held3 (fun W => W.cell? ⟨w.heap.size, 0, none⟩ = some (.bool a.1.1) ∧ W.cell? ⟨w.heap.size, 1, none⟩ = some (.slice Aa a.1.2.length ca) ∧ W.cell? ⟨w.heap.size, 2, none⟩ = some (.int .i64 a.2) ∧ Hid (Chg [] w1 W))
        ((refine KL.out _ ?_; (first | exact HC3.out | exact HC2.out | exact HCr.out | exact HC0.out | exact HC3.out.drew1 | exact HC2.out.drew1 | exact HCr.out.drew1 | exact HC0.out.drew1 | exact HC3.out.trans (Chg.of_below (below_al (Below.refl _ _) _)) | exact HC2.out.trans (Chg.of_below (below_al (Below.refl _ _) _)) | exact HCr.out.trans (Chg.of_below (below_al (Below.refl _ _) _)) | exact HC0.out.trans (Chg.of_below (below_al (Below.refl _ _) _)) | exact (Chg.setNew HC3.out (by first | exact HC3.out.size | exact HC2.out.size | exact HCr.out.size | exact HC0.out.size) _) | exact (Chg.setNew (Chg.setNew HC3.out (by first | exact HC3.out.size | exact HC2.out.size | exact HCr.out.size | exact HC0.out.size) _) (by first | exact HC3.out.size | exact HC2.out.size | exact HCr.out.size | exact HC0.out.size) _) | exact (Chg.setNew (Chg.setNew (Chg.setNew HC3.out (by first | exact HC3.out.size | exact HC2.out.size | exact HCr.out.size | exact HC0.out.size) _) (by first | exact HC3.out.size | exact HC2.out.size | exact HCr.out.size | exact HC0.out.size) _) (by first | exact HC3.out.size | exact HC2.out.size | exact HCr.out.size | exact HC0.out.size) _) | fail)))
        (first
          | (go_at_call 53; (have hBB := (‹_ ∧ _ ∧ _ ∧ Hid (Chg [] w1 _)›).2.2.2); (with_reducible refine (tenTo_any a.2 _).mono ?_); rintro e w2 ⟨ut, St, rfl, ot, lt, b2⟩; have HC2 := Lib.hid (hBB.out.trans (Chg.of_below b2)); obtain ⟨At_, ct, rfl⟩ := ownS_form ot.here; (first | (have early2 : At [w1.heap.size] (BoxAt w1.heap.size #[.bool false, .slice none 0 0, .slice none 0 0] 32) w2 := At.below (box_new w1.drew _ _) b2) | (have early2 := At.below (box_new _ #[.bool false, .slice none 0 0, .slice none 0 0] 32) b2) | (have early2 := At.below early1 b2) | skip); have HBZ2 := Lib.hid hBB.out.size; clear hBB)
          | (go_at_call 52; (have hBB := (‹_ ∧ _ ∧ _ ∧ Hid (Chg [] w1 _)›).2.2.2); (with_reducible refine ((implRatMake_any _ _ a.1 (tenS a.2) _ hzA hzT (OSa.out _ (BBF.out _ hBB.out)) (At.here (by first | exact ot | exact At.below ot (below_al (Below.refl _ _) _) | exact At.below (At.below ot (below_al (Below.refl _ _) _)) (below_al (Below.refl _ _) _) | exact At.move ot (fun _ _ => rfl) (Nat.le_refl _))) (HS.out.below (BBF.out _ hBB.out))).mono fun _ _ h => postQb_isD EQ.out h).mono ?_); rintro e w3 ⟨uf, Sf, rfl, of, lf, b3⟩; have HC3 := Lib.hid (hBB.out.trans (Chg.of_below b3)); (have ot_3 := At.below (by first | exact ot | exact At.below ot (below_al (Below.refl _ _) _) | exact At.below (At.below ot (below_al (Below.refl _ _) _)) (below_al (Below.refl _ _) _) | exact At.move ot (fun _ _ => rfl) (Nat.le_refl _)) b3); obtain ⟨Af, cf, Bf, df, rfl⟩ := ownQ_form of.here; (first | have hbxg := At.below_lt (box_new _ #[.bool false, .slice none 0 0, .slice none 0 0] 32) b3 | have hbxg := At.below_lt early2 b3 | skip); (try (have hbxf := hbxg.1; have HGB := Lib.hid hbxg.2; clear hbxg)); (try (have cz0 := hbxf.here.cell 0 _ rfl; have fz0 := Lib.frozen_of_heap hbxf.here 0; have cz1 := hbxf.here.cell 1 _ rfl; have fz1 := Lib.frozen_of_heap hbxf.here 1; have cz2 := hbxf.here.cell 2 _ rfl; have fz2 := Lib.frozen_of_heap hbxf.here 2)); have HBZ3 := Lib.hid hBB.out.size; clear hBB))
      all_goals (go_wp2_with fail; go_meet; first | exact ⟨newLocV_last of lf HBZ3.out (below_of_chg HC3.out), rfl⟩ | exact ⟨newLocV_early3 hbxf.here of lf (by first | exact HC2.out.size | exact HCr.out.size | exact HC0.out.size) HGB.out (below_of_chg HC3.out), rfl⟩)
    rename World => w2
    clear ka_c0 ka_c1 ka_c2
    obtain ⟨⟨gy, csy, Sy, rfl, ky, oy, ny, ly, b2⟩, rfl⟩ := hcut
    obtain ⟨Ay, cy, By, dy, ey⟩ := ownQ_form oy.here
    injection ey with ey
    subst ey
    have bb2 := Below.next bb1 b2
    replace ka := ka.below b2
    replace ko := ko.below b2
    have HW := Lib.hid (newV_chg (φ := fun v => OwnQ v Q) (T := [w.heap.size + 1]) oy (fun i hi hm => by have := ly i (List.mem_cons_of_mem _ hi); have := HKO.out; have := b1.size; simp at hm; omega) (fun i hi => by simp at hi; omega) (fun i hi => by have := ly i (List.mem_cons_of_mem _ hi); have := HKO.out; have := b1.size; omega) bb2)
    have ky_c0 := ky.here.cell 0 _ rfl
    have ky_c1 := ky.here.cell 1 _ rfl
    have ky_c2 := ky.here.cell 2 _ rfl
    have cz0 := ko.here.cell 0 _ rfl
    have fz0 := Lib.frozen_of_heap ko.here 0
    have cz1 := ko.here.cell 1 _ rfl
    have fz1 := Lib.frozen_of_heap ko.here 1
    have cz2 := ko.here.cell 2 _ rfl
    have fz2 := Lib.frozen_of_heap ko.here 2
    clear oy ky ko ka
    go_wp2
    refine bodyPost_ret (v := .agg #[.bool _, .slice Ay _ cy, .slice By _ dy]) (by simp [results, Tryz.results14, go_sem, cz0, cz1, cz2]; exact ⟨rfl, rfl, rfl⟩) rfl ?_
    refine HW.out _ ?_
    repeat (first | exact Chg.refl _ _ | refine Chg.setCell ?_ (by simp) _)
  · have ok' : okD a = false := by simpa using ok
    have HV := Lib.hid (show Q = zeroQ from EQ0.out.symm.trans (rat_bad ok))
    rw [ok']
    clear ok ok' ka
    have cz0 := ko.here.cell 0 _ rfl
    have fz0 := Lib.frozen_of_heap ko.here 0
    have cz1 := ko.here.cell 1 _ rfl
    have fz1 := Lib.frozen_of_heap ko.here 1
    have cz2 := ko.here.cell 2 _ rfl
    have fz2 := Lib.frozen_of_heap ko.here 2
    go_wp2
    refine bodyPost_ret (v := .agg #[.bool false, .slice none 0 0, .slice none 0 0]) (by simp [results, Tryz.results14, go_sem, cz0, cz1, cz2]) rfl ?_
    rw [HV.out]
    first | exact newQ_zeroD bb1 | exact newQ_zeroD (below_set3 bb1 (by omega))
end Go.Proofs.YtbpfabicampdkaaGreatDoor

namespace Go.Proofs.YtbpfabicampdkaaGreatDoor
open Go.RowKit

set_option maxHeartbeats 2000000 in
set_option maxRecDepth 100000 in
theorem specRatMake_any (va vb : Value) (a b : SI) (w : World) (hza : szS a ≤ 1048576) (hzb : szS b ≤ 1048576) (ha : OwnS va a w) (hb : OwnS vb b w) :
    Calls Tryz.prog 134 #[va, vb] w (PostQb (makeQ a b).1 (makeQ a b).2 w) := by
  have Ha := Lib.hid ha
  obtain ⟨Aa, ca, rfl⟩ := ownS_form ha
  have OSa := Lib.hid (show ∀ W, Below w.heap.size w W → OwnS (.agg #[.bool a.1, .slice Aa a.2.length ca]) a W from fun W hb => OwnS.below Ha.out hb)
  have OIa := Lib.hid (show ∀ W, Below w.heap.size w W → OwnI (.slice Aa a.2.length ca) a.2 W from fun W hb => ownS_open (OSa.out W hb))
  clear ha
  have Hb := Lib.hid hb
  obtain ⟨Ab, cb, rfl⟩ := ownS_form hb
  have OSb := Lib.hid (show ∀ W, Below w.heap.size w W → OwnS (.agg #[.bool b.1, .slice Ab b.2.length cb]) b W from fun W hb => OwnS.below Hb.out hb)
  have OIb := Lib.hid (show ∀ W, Below w.heap.size w W → OwnI (.slice Ab b.2.length cb) b.2 W from fun W hb => ownS_open (OSb.out W hb))
  clear hb
  have hla : a.2.length ≤ 1048576 := by unfold szS szI at hza; omega
  have hlb : b.2.length ≤ 1048576 := by unfold szS szI at hzb; omega
  clear hza hzb
  have bb0 : Below w.heap.size w (((w.alloc (.cells #[.bool a.1, .slice Aa a.2.length ca] 30)).alloc (.cells #[.bool b.1, .slice Ab b.2.length cb] 30)).alloc (.cells #[.bool false, .slice none 0 0, .slice none 0 0] 32)) := below_al (below_al (below_al (Below.refl _ _) _) _) _
  have ka := (box_new w #[.bool a.1, .slice Aa a.2.length ca] 30).below (below_al (below_al (Below.refl _ _) (.cells #[.bool b.1, .slice Ab b.2.length cb] 30)) (.cells #[.bool false, .slice none 0 0, .slice none 0 0] 32))
  have kb := (box_new (w.alloc (.cells #[.bool a.1, .slice Aa a.2.length ca] 30)) #[.bool b.1, .slice Ab b.2.length cb] 30).below (below_al (Below.refl _ _) (.cells #[.bool false, .slice none 0 0, .slice none 0 0] 32))
  rw [show (w.alloc (.cells #[.bool a.1, .slice Aa a.2.length ca] 30)).heap.size = w.heap.size + 1 by simp] at kb
  have ko := (box_new ((w.alloc (.cells #[.bool a.1, .slice Aa a.2.length ca] 30)).alloc (.cells #[.bool b.1, .slice Ab b.2.length cb] 30)) #[.bool false, .slice none 0 0, .slice none 0 0] 32)
  rw [show ((w.alloc (.cells #[.bool a.1, .slice Aa a.2.length ca] 30)).alloc (.cells #[.bool b.1, .slice Ab b.2.length cb] 30)).heap.size = w.heap.size + 1 + 1 by simp] at ko
  go_enter Tryz.func134, Tryz.ntmps134
  have ka_c0 := ka.here.cell 0 _ rfl
  have ka_c1 := ka.here.cell 1 _ rfl
  go_wp2_with fail
  clear ka_c0 ka_c1
  refine (specIntOk_any _ a _ hla (OwnS.rd (OSa.out _ bb0))).mono ?_
  rintro e w1 ⟨rfl, b1⟩
  have bb1 := Below.next bb0 b1
  replace ka := ka.below b1
  replace kb := kb.below b1
  replace ko := ko.below b1
  by_cases oka : okS a = true
  · rw [oka]
    have HOa := Lib.hid oka
    clear oka
    have kb_c0 := kb.here.cell 0 _ rfl
    have kb_c1 := kb.here.cell 1 _ rfl
    go_wp2_with fail
    clear kb_c0 kb_c1
    refine (specIntOk_any _ b _ hlb (OwnS.rd (OSb.out _ bb1))).mono ?_
    rintro e w2 ⟨rfl, b2⟩
    have bb2 := Below.next bb1 b2
    replace ka := ka.below b2
    replace kb := kb.below b2
    replace ko := ko.below b2
    by_cases okb : okS b = true
    · rw [okb]
      have HOb := Lib.hid okb
      clear okb
      have HKO := Lib.hid (ko.lt (w.heap.size + 1 + 1) (by simp))
      have Ea := Lib.hid (natOk_limbs (okS_parts HOa.out).1)
      have Eb := Lib.hid (natOk_limbs (okS_parts HOb.out).1)
      obtain ⟨Na, hNa⟩ : ∃ Na, (nval a.2).toNat = Na := ⟨_, rfl⟩
      have Ea := Lib.hid (show a.2 = limbs Na by rw [← hNa]; exact natOk_limbs (okS_parts HOa.out).1)
      have La := Lib.hid (show (limbs Na).length ≤ 50 by rw [← Ea.out]; exact (natOk_parts (okS_parts HOa.out).1).2.1)
      obtain ⟨Nb, hNb⟩ : ∃ Nb, (nval b.2).toNat = Nb := ⟨_, rfl⟩
      have Eb := Lib.hid (show b.2 = limbs Nb by rw [← hNb]; exact natOk_limbs (okS_parts HOb.out).1)
      have Lb := Lib.hid (show (limbs Nb).length ≤ 50 by rw [← Eb.out]; exact (natOk_parts (okS_parts HOb.out).1).2.1)
      have HV := Lib.hid (show makeQ a b = lowQ (!(a.1 == b.1)) Na Nb by unfold makeQ; rw [if_pos ⟨HOa.out, HOb.out⟩, hNa, hNb]; rfl)
      clear hNa hNb
      have ka_c0 := ka.here.cell 0 _ rfl
      have ka_c1 := ka.here.cell 1 _ rfl
      have kb_c0 := kb.here.cell 0 _ rfl
      have kb_c1 := kb.here.cell 1 _ rfl
      go_wp2_with fail
      clear ka_c0 ka_c1 kb_c0 kb_c1
      refine (lowX_any _ _ _ a.2 b.2 Na Nb _ La.out Lb.out Ea.out Eb.out (OIa.out _ bb2) (OIb.out _ bb2)).mono ?_
      rintro e w3 ⟨uf, Sf, rfl, of, lf, b3⟩
      obtain ⟨Af, cf, Bf, df, rfl⟩ := ownQ_form of.here
      have bb3 := Below.next bb2 b3
      replace ka := ka.below b3
      replace kb := kb.below b3
      replace ko := ko.below b3
      have HW := Lib.hid (newQb_at (r := w.heap.size + 1 + 1) (b := (lowQ (!(a.1 == b.1)) Na Nb).2) of lf (by have := HKO.out; omega) (by omega) bb3)
      have cz0 := ko.here.cell 0 _ rfl
      have fz0 := Lib.frozen_of_heap ko.here 0
      have cz1 := ko.here.cell 1 _ rfl
      have fz1 := Lib.frozen_of_heap ko.here 1
      have cz2 := ko.here.cell 2 _ rfl
      have fz2 := Lib.frozen_of_heap ko.here 2
      clear of ko
      go_wp2
      refine bodyPost_ret (v := .tuple #[.agg #[.bool _, .slice Af _ cf, .slice Bf _ df], .bool _]) (by simp [results, Tryz.results134, go_sem, cz0, cz1, cz2]; exact ⟨⟨rfl, rfl, rfl⟩, rfl⟩) rfl ?_
      rw [HV.out]
      exact HW.out
    · have okb' : okS b = false := by simpa using okb
      have HV := Lib.hid (show makeQ a b = (zeroQ, false) by unfold makeQ; rw [if_neg (fun h => okb h.2)])
      rw [okb']
      clear okb okb'
      have ko_c0 := ko.here.cell 0 _ rfl
      have ko_c1 := ko.here.cell 1 _ rfl
      have ko_c2 := ko.here.cell 2 _ rfl
      have cz0 := ko.here.cell 0 _ rfl
      have fz0 := Lib.frozen_of_heap ko.here 0
      have cz1 := ko.here.cell 1 _ rfl
      have fz1 := Lib.frozen_of_heap ko.here 1
      have cz2 := ko.here.cell 2 _ rfl
      have fz2 := Lib.frozen_of_heap ko.here 2
      go_wp2
      refine bodyPost_ret (v := .tuple #[.agg #[.bool false, .slice none 0 0, .slice none 0 0], .bool false]) (by simp [results, Tryz.results134, go_sem, cz0, cz1, cz2]) rfl ?_
      rw [HV.out]
      first | exact newQb_zero _ bb2 | exact newQb_zero _ (below_set3 bb2 (by omega))
  · have oka' : okS a = false := by simpa using oka
    have HV := Lib.hid (show makeQ a b = (zeroQ, false) by unfold makeQ; rw [if_neg (fun h => oka h.1)])
    rw [oka']
    clear oka oka'
    have ko_c0 := ko.here.cell 0 _ rfl
    have ko_c1 := ko.here.cell 1 _ rfl
    have ko_c2 := ko.here.cell 2 _ rfl
    have cz0 := ko.here.cell 0 _ rfl
    have fz0 := Lib.frozen_of_heap ko.here 0
    have cz1 := ko.here.cell 1 _ rfl
    have fz1 := Lib.frozen_of_heap ko.here 1
    have cz2 := ko.here.cell 2 _ rfl
    have fz2 := Lib.frozen_of_heap ko.here 2
    go_wp2
    refine bodyPost_ret (v := .tuple #[.agg #[.bool false, .slice none 0 0, .slice none 0 0], .bool false]) (by simp [results, Tryz.results134, go_sem, cz0, cz1, cz2]) rfl ?_
    rw [HV.out]
    first | exact newQb_zero _ bb1 | exact newQb_zero _ (below_set3 bb1 (by omega))
set_option maxHeartbeats 2000000 in
set_option maxRecDepth 100000 in
theorem specRatInt_any (va : Value) (a : SI) (w : World) (hza : szS a ≤ 1048576) (ha : OwnS va a w) :
    Calls Tryz.prog 77 #[va] w (PostQb (makeQ a (ofZ 1)).1 (makeQ a (ofZ 1)).2 w) := by
  have Ha := Lib.hid ha
  obtain ⟨Aa, ca, rfl⟩ := ownS_form ha
  have OSa := Lib.hid (show ∀ W, Below w.heap.size w W → OwnS (.agg #[.bool a.1, .slice Aa a.2.length ca]) a W from fun W hb => OwnS.below Ha.out hb)
  have OIa := Lib.hid (show ∀ W, Below w.heap.size w W → OwnI (.slice Aa a.2.length ca) a.2 W from fun W hb => ownS_open (OSa.out W hb))
  clear ha
  have bb0 : Below w.heap.size w ((w.alloc (.cells #[.bool a.1, .slice Aa a.2.length ca] 30)).alloc (.cells #[.bool false, .slice none 0 0, .slice none 0 0] 32)) := below_al (below_al (Below.refl _ _) _) _
  have ka := (box_new w #[.bool a.1, .slice Aa a.2.length ca] 30).below (below_al (Below.refl _ _) (.cells #[.bool false, .slice none 0 0, .slice none 0 0] 32))
  have ko := (box_new (w.alloc (.cells #[.bool a.1, .slice Aa a.2.length ca] 30)) #[.bool false, .slice none 0 0, .slice none 0 0] 32)
  rw [show (w.alloc (.cells #[.bool a.1, .slice Aa a.2.length ca] 30)).heap.size = w.heap.size + 1 by simp] at ko
  have HKO := Lib.hid (ko.lt (w.heap.size + 1) (by simp))
  obtain ⟨Q, hQ⟩ : ∃ Q, makeQ a (ofZ 1) = Q := ⟨_, rfl⟩
  have EQ := Lib.hid hQ
  rw [hQ]
  clear hQ
  obtain ⟨W0, hW0⟩ : ∃ W0, W0 = ((w.alloc (.cells #[.bool a.1, .slice Aa a.2.length ca] 30)).alloc (.cells #[.bool false, .slice none 0 0, .slice none 0 0] 32)) := ⟨_, rfl⟩
  rw [← hW0] at bb0 ka ko HKO
  have HW0 := Lib.hid hW0
  clear hW0
  have hz0 := HKO.out
  go_enter Tryz.func77, Tryz.ntmps77
  have ka_c0 := ka.here.cell 0 _ rfl
  have ka_c1 := ka.here.cell 1 _ rfl
  go_wp2_with fail
  rw [← HW0.out]
  have HC0 := Lib.hid (show Chg [w.heap.size + 1] W0 W0.drew from (Chg.refl _ _).drew1)
  have HCr := Lib.hid (show Chg [w.heap.size + 1] W0 W0 from Chg.refl _ _)
  have KL := Lib.hid (show ∀ W, Chg [w.heap.size + 1] W0 W → W.cell? ⟨w.heap.size, 0, none⟩ = some (.bool a.1) ∧ W.cell? ⟨w.heap.size, 1, none⟩ = some (.slice Aa a.2.length ca) ∧ Hid (Chg [w.heap.size + 1] W0 W) from fun W hc => ⟨(ka.chg hc (fun i hi hm => by simp at hi hm; omega)).here.cell 0 _ rfl, (ka.chg hc (fun i hi hm => by simp at hi hm; omega)).here.cell 1 _ rfl, Lib.hid hc⟩)
  have BBF := Lib.hid (show ∀ W, Chg [w.heap.size + 1] W0 W → Below w.heap.size w W from fun W hc => below_chg bb0 hc bb0.size (fun i hi => by simp at hi; omega))
  clear ka_c0 ka_c1
  go_region_held3 (fun W => W.cell? ⟨w.heap.size, 0, none⟩ = some (.bool a.1) ∧ W.cell? ⟨w.heap.size, 1, none⟩ = some (.slice Aa a.2.length ca) ∧ Hid (Chg [w.heap.size + 1] W0 W))
    ((refine KL.out _ ?_; (first | exact HC2.out | exact HC1.out | exact HCr.out | exact HC0.out | exact HC2.out.drew1 | exact HC1.out.drew1 | exact HCr.out.drew1 | exact HC0.out.drew1 | exact HC2.out.trans (Chg.of_below (below_al (Below.refl _ _) _)) | exact HC1.out.trans (Chg.of_below (below_al (Below.refl _ _) _)) | exact HCr.out.trans (Chg.of_below (below_al (Below.refl _ _) _)) | exact HC0.out.trans (Chg.of_below (below_al (Below.refl _ _) _)) | exact (Chg.setCell HC2.out (by simp) _) | exact (Chg.setCell (Chg.setCell HC2.out (by simp) _) (by simp) _) | exact (Chg.setCell (Chg.setCell (Chg.setCell HC2.out (by simp) _) (by simp) _) (by simp) _) | fail)))
    (first
      | (go_at_call 78; (have hBB := (‹_ ∧ _ ∧ Hid (Chg [w.heap.size + 1] W0 _)›).2.2); (with_reducible refine ((specIntOf_any 1 _ (by decide) (by decide)).mono fun _ _ h => NewS.newV h).mono ?_); rintro e w1 ⟨ui, Si, rfl, oi, li, b1⟩; have HC1 := Lib.hid (hBB.out.trans (Chg.of_below b1)); (have ko_1 := At.below (by first | exact ko | exact At.below ko (below_al (Below.refl _ _) _) | exact At.below (At.below ko (below_al (Below.refl _ _) _)) (below_al (Below.refl _ _) _) | exact At.move ko (fun _ _ => rfl) (Nat.le_refl _)) b1); obtain ⟨Ai, ci, rfl⟩ := ownS_form oi.here; have HBZ1 := Lib.hid hBB.out.size; clear hBB)
      | (go_at_call 134; (have hBB := (‹_ ∧ _ ∧ Hid (Chg [w.heap.size + 1] W0 _)›).2.2); (with_reducible refine ((specRatMake_any _ _ a (ofZ 1) _ hza one_szS (OSa.out _ (BBF.out _ hBB.out)) (At.here (by first | exact oi | exact At.below oi (below_al (Below.refl _ _) _) | exact At.below (At.below oi (below_al (Below.refl _ _) _)) (below_al (Below.refl _ _) _) | exact At.move oi (fun _ _ => rfl) (Nat.le_refl _)))).mono fun _ _ h => postQb_eq EQ.out h).mono ?_); rintro e w2 ⟨uf, Sf, rfl, of, lf, b2⟩; have HC2 := Lib.hid (hBB.out.trans (Chg.of_below b2)); (have ko_2 := At.below (by first | exact ko_1 | exact At.below ko_1 (below_al (Below.refl _ _) _) | exact At.below (At.below ko_1 (below_al (Below.refl _ _) _)) (below_al (Below.refl _ _) _) | exact At.move ko_1 (fun _ _ => rfl) (Nat.le_refl _)) b2); (have oi_2 := At.below (by first | exact oi | exact At.below oi (below_al (Below.refl _ _) _) | exact At.below (At.below oi (below_al (Below.refl _ _) _)) (below_al (Below.refl _ _) _) | exact At.move oi (fun _ _ => rfl) (Nat.le_refl _)) b2); obtain ⟨Af, cf, Bf, df, rfl⟩ := ownQ_form of.here; have cz0 := ko_2.here.cell 0 _ rfl; have fz0 := Lib.frozen_of_heap ko_2.here 0; have cz1 := ko_2.here.cell 1 _ rfl; have fz1 := Lib.frozen_of_heap ko_2.here 1; have cz2 := ko_2.here.cell 2 _ rfl; have fz2 := Lib.frozen_of_heap ko_2.here 2; have HBZ2 := Lib.hid hBB.out.size; clear hBB))
  have bb2 := BBF.out _ HC2.out
  replace ka := ka.chg HC2.out (fun i hi hm => by simp at hi hm; omega)
  replace ko := ko_2
  have oi := oi_2
  have HW := Lib.hid (newQb_at (r := w.heap.size + 1) (b := Q.2) of lf (by have := HBZ2.out; omega) (by omega) bb2)
  clear of ko ka oi
  go_wp2
  refine bodyPost_ret (v := .tuple #[.agg #[.bool _, .slice Af _ cf, .slice Bf _ df], .bool _]) (by simp [results, Tryz.results77, go_sem, cz0, cz1, cz2]; exact ⟨⟨rfl, rfl, rfl⟩, rfl⟩) rfl ?_
  exact HW.out
end Go.Proofs.YtbpfabicampdkaaGreatDoor

namespace Go.Proofs.YtbpfabicampdkaaGreatDoor
open Go.RowKit

end Go.Proofs.YtbpfabicampdkaaGreatDoor

namespace Go.Proofs.YtbpfabicampdkaaGreatDoor
open Go.RowKit

/-- what was own ahead of an append to an empty literal is own behind it, apart from what the append gave -/
theorem after_append {wb w3 : World} {base L gg n k : Nat} {v : Value} {xs : List Value} (m cap : Nat) (o : wb.ownsRow base 3 1 v n xs) (hg : wb.grownBy w3 (Value.slice (some ⟨L, 0, none⟩) 0 k).ownBlock)
    (hat : (Value.slice (some ⟨L, 0, none⟩) 0 k).ownBlock = some gg ∨ gg = wb.heap.size) (hL : L < base ∨ ∀ g, v.ownBlock = some g → g < L) : w3.ownsRow base 3 1 v n xs ∧ ∀ g, v.ownBlock = some g → (Value.slice (some ⟨gg, 0, none⟩) (0 + m) cap).ownBlock ≠ some g := by
  refine ⟨own_apart o hg fun g q h1 h2 => ?_, fun g h1 h2 => ?_⟩
  · have h3 := Option.some.inj (show some L = some q from h2)
    have h4 := own_lt o h1
    rcases hL with h5 | h5
    · omega
    · have := h5 g h1
      omega
  · have h3 := Option.some.inj (show some gg = some g from h2)
    have h4 := own_lt o h1
    rcases hat with h6 | h6
    · have h7 := Option.some.inj (show some L = some gg from h6)
      rcases hL with h5 | h5
      · omega
      · have := h5 g h1
        omega
    · omega
end Go.Proofs.YtbpfabicampdkaaGreatDoor

namespace Go.Proofs.YtbpfabicampdkaaGreatDoor
open Go.RowKit

end Go.Proofs.YtbpfabicampdkaaGreatDoor

namespace Go.Proofs.YtbpfabicampdkaaGreatDoor
open Go.RowKit

set_option maxHeartbeats 4000000 in
set_option maxRecDepth 100000 in
theorem specDecRat_any (va : Value) (a : DI) (w : World) (hla : a.1.2.length ≤ 1048576) (ha : OwnD va a w) :
    Calls Tryz.prog 137 #[va] w (NewV (fun u => OwnQ u (ratD a)) w) := by
  have Ha := Lib.hid ha
  obtain ⟨Aa, ca, rfl⟩ := ownD_form ha
  have ODa := Lib.hid (show ∀ W, Below w.heap.size w W → OwnD (.agg #[.bool a.1.1, .slice Aa a.1.2.length ca, .int .i64 a.2]) a W from fun W hb => OwnD.below Ha.out hb)
  have OIa := Lib.hid (show ∀ W, Below w.heap.size w W → OwnI (.slice Aa a.1.2.length ca) a.1.2 W from fun W hb => ownD_open (ODa.out W hb))
  have OSa := Lib.hid (show ∀ W, Below w.heap.size w W → OwnS (.agg #[.bool a.1.1, .slice Aa a.1.2.length ca]) a.1 W from fun W hb => OwnS.mk (OIa.out W hb))
  clear ha
  have bb0 : Below w.heap.size w ((w.alloc (.cells #[.bool a.1.1, .slice Aa a.1.2.length ca, .int .i64 a.2] 39)).alloc (.cells #[.bool false, .slice none 0 0, .slice none 0 0] 32)) := below_al (below_al (Below.refl _ _) _) _
  have ka := (box_new w #[.bool a.1.1, .slice Aa a.1.2.length ca, .int .i64 a.2] 39).below (below_al (Below.refl _ _) (.cells #[.bool false, .slice none 0 0, .slice none 0 0] 32))
  have ko := (box_new (w.alloc (.cells #[.bool a.1.1, .slice Aa a.1.2.length ca, .int .i64 a.2] 39)) #[.bool false, .slice none 0 0, .slice none 0 0] 32)
  rw [show (w.alloc (.cells #[.bool a.1.1, .slice Aa a.1.2.length ca, .int .i64 a.2] 39)).heap.size = w.heap.size + 1 by simp] at ko
  have HKO := Lib.hid (ko.lt (w.heap.size + 1) (by simp))
  obtain ⟨Q, hQ⟩ : ∃ Q, ratD a = Q := ⟨_, rfl⟩
  have EQ0 := Lib.hid hQ
  rw [hQ]
  clear hQ
  go_enter Tryz.func137, Tryz.ntmps137
  have ka_c0 := ka.here.cell 0 _ rfl
  have ka_c1 := ka.here.cell 1 _ rfl
  have ka_c2 := ka.here.cell 2 _ rfl
  go_wp2_with fail
  clear ka_c0 ka_c1 ka_c2
  refine (specDecOk_any _ a _ hla (ODa.out _ bb0)).mono ?_
  rintro e w1 ⟨rfl, b1⟩
  have bb1 := Below.next bb0 b1
  replace ka := ka.below b1
  replace ko := ko.below b1
  by_cases ok : okD a = true
  · rw [ok]
    have HT := Lib.hid (ten_bd ok)
    have hl6 := (partsD ok).len
    have hzA : szS a.1 ≤ 1048576 := by unfold szS szI; omega
    have hzT := szS_ten a.2
    have EQ := Lib.hid (show makeQ a.1 (tenS a.2) = (Q, true) by rw [← EQ0.out]; exact HT.out.1)
    clear ok hl6
    have ka_c0 := ka.here.cell 0 _ rfl
    have ka_c1 := ka.here.cell 1 _ rfl
    have ka_c2 := ka.here.cell 2 _ rfl
    go_upto_region 3 with fail
    go_cut [3, 4] (fun s1 s2 wx => NewLocV 32 (fun v => OwnQ v Q) w1 s1 wx ∧ s2 = .bool true)
    case first =>
      have HC0 := Lib.hid (show Chg [] w1 w1.drew from (Chg.refl _ _).drew1)
      have HCr := Lib.hid (show Chg [] w1 w1 from Chg.refl _ _)
      have KL := Lib.hid (show ∀ W, Chg [] w1 W → W.cell? ⟨w.heap.size, 0, none⟩ = some (.bool a.1.1) ∧ W.cell? ⟨w.heap.size, 1, none⟩ = some (.slice Aa a.1.2.length ca) ∧ W.cell? ⟨w.heap.size, 2, none⟩ = some (.int .i64 a.2) ∧ Hid (Chg [] w1 W) from fun W hc => ⟨(ka.chg hc (fun i hi hm => by simp at hm)).here.cell 0 _ rfl, (ka.chg hc (fun i hi hm => by simp at hm)).here.cell 1 _ rfl, (ka.chg hc (fun i hi hm => by simp at hm)).here.cell 2 _ rfl, Lib.hid hc⟩)
      have BBF := Lib.hid (show ∀ W, Chg [] w1 W → Below w.heap.size w W from fun W hc => below_chg bb1 hc bb1.size (fun i hi => by simp at hi))
      clear ka_c0 ka_c1 ka_c2
      go_region_held3 (fun W => W.cell? ⟨w.heap.size, 0, none⟩ = some (.bool a.1.1) ∧ W.cell? ⟨w.heap.size, 1, none⟩ = some (.slice Aa a.1.2.length ca) ∧ W.cell? ⟨w.heap.size, 2, none⟩ = some (.int .i64 a.2) ∧ Hid (Chg [] w1 W))
        ((refine KL.out _ ?_; (first | exact HC3.out | exact HC2.out | exact HCr.out | exact HC0.out | exact HC3.out.drew1 | exact HC2.out.drew1 | exact HCr.out.drew1 | exact HC0.out.drew1 | exact HC3.out.trans (Chg.of_below (below_al (Below.refl _ _) _)) | exact HC2.out.trans (Chg.of_below (below_al (Below.refl _ _) _)) | exact HCr.out.trans (Chg.of_below (below_al (Below.refl _ _) _)) | exact HC0.out.trans (Chg.of_below (below_al (Below.refl _ _) _)) | exact (Chg.setNew HC3.out (by first | exact HC3.out.size | exact HC2.out.size | exact HCr.out.size | exact HC0.out.size) _) | exact (Chg.setNew (Chg.setNew HC3.out (by first | exact HC3.out.size | exact HC2.out.size | exact HCr.out.size | exact HC0.out.size) _) (by first | exact HC3.out.size | exact HC2.out.size | exact HCr.out.size | exact HC0.out.size) _) | exact (Chg.setNew (Chg.setNew (Chg.setNew HC3.out (by first | exact HC3.out.size | exact HC2.out.size | exact HCr.out.size | exact HC0.out.size) _) (by first | exact HC3.out.size | exact HC2.out.size | exact HCr.out.size | exact HC0.out.size) _) (by first | exact HC3.out.size | exact HC2.out.size | exact HCr.out.size | exact HC0.out.size) _) | fail)))
        (first
          | (go_at_call 177; (have hBB := (‹_ ∧ _ ∧ _ ∧ Hid (Chg [] w1 _)›).2.2.2); (with_reducible refine (l07Ten_any a.2 _).mono ?_); rintro e w2 ⟨ut, St, rfl, ot, lt, b2⟩; have HC2 := Lib.hid (hBB.out.trans (Chg.of_below b2)); obtain ⟨At_, ct, rfl⟩ := ownS_form ot.here; (first | (have early2 : At [w1.heap.size] (BoxAt w1.heap.size #[.bool false, .slice none 0 0, .slice none 0 0] 32) w2 := At.below (box_new w1.drew _ _) b2) | (have early2 := At.below (box_new _ #[.bool false, .slice none 0 0, .slice none 0 0] 32) b2) | (have early2 := At.below early1 b2) | skip); have HBZ2 := Lib.hid hBB.out.size; clear hBB)
          | (go_at_call 134; (have hBB := (‹_ ∧ _ ∧ _ ∧ Hid (Chg [] w1 _)›).2.2.2); (with_reducible refine ((specRatMake_any _ _ a.1 (tenS a.2) _ hzA hzT (OSa.out _ (BBF.out _ hBB.out)) (At.here (by first | exact ot | exact At.below ot (below_al (Below.refl _ _) _) | exact At.below (At.below ot (below_al (Below.refl _ _) _)) (below_al (Below.refl _ _) _) | exact At.move ot (fun _ _ => rfl) (Nat.le_refl _)))).mono fun _ _ h => postQb_isD EQ.out h).mono ?_); rintro e w3 ⟨uf, Sf, rfl, of, lf, b3⟩; have HC3 := Lib.hid (hBB.out.trans (Chg.of_below b3)); (have ot_3 := At.below (by first | exact ot | exact At.below ot (below_al (Below.refl _ _) _) | exact At.below (At.below ot (below_al (Below.refl _ _) _)) (below_al (Below.refl _ _) _) | exact At.move ot (fun _ _ => rfl) (Nat.le_refl _)) b3); obtain ⟨Af, cf, Bf, df, rfl⟩ := ownQ_form of.here; (first | have hbxg := At.below_lt (box_new _ #[.bool false, .slice none 0 0, .slice none 0 0] 32) b3 | have hbxg := At.below_lt early2 b3 | skip); (try (have hbxf := hbxg.1; have HGB := Lib.hid hbxg.2; clear hbxg)); (try (have cz0 := hbxf.here.cell 0 _ rfl; have fz0 := Lib.frozen_of_heap hbxf.here 0; have cz1 := hbxf.here.cell 1 _ rfl; have fz1 := Lib.frozen_of_heap hbxf.here 1; have cz2 := hbxf.here.cell 2 _ rfl; have fz2 := Lib.frozen_of_heap hbxf.here 2)); have HBZ3 := Lib.hid hBB.out.size; clear hBB))
      all_goals (go_wp2_with fail; go_meet; first | exact ⟨newLocV_last of lf HBZ3.out (below_of_chg HC3.out), rfl⟩ | exact ⟨newLocV_early3 hbxf.here of lf (by first | exact HC2.out.size | exact HCr.out.size | exact HC0.out.size) HGB.out (below_of_chg HC3.out), rfl⟩)
    rename World => w2
    clear ka_c0 ka_c1 ka_c2
    obtain ⟨⟨gy, csy, Sy, rfl, ky, oy, ny, ly, b2⟩, rfl⟩ := hcut
    obtain ⟨Ay, cy, By, dy, ey⟩ := ownQ_form oy.here
    injection ey with ey
    subst ey
    have bb2 := Below.next bb1 b2
    replace ka := ka.below b2
    replace ko := ko.below b2
    have HW := Lib.hid (newV_chg (φ := fun v => OwnQ v Q) (T := [w.heap.size + 1]) oy (fun i hi hm => by have := ly i (List.mem_cons_of_mem _ hi); have := HKO.out; have := b1.size; simp at hm; omega) (fun i hi => by simp at hi; omega) (fun i hi => by have := ly i (List.mem_cons_of_mem _ hi); have := HKO.out; have := b1.size; omega) bb2)
    have ky_c0 := ky.here.cell 0 _ rfl
    have ky_c1 := ky.here.cell 1 _ rfl
    have ky_c2 := ky.here.cell 2 _ rfl
    have cz0 := ko.here.cell 0 _ rfl
    have fz0 := Lib.frozen_of_heap ko.here 0
    have cz1 := ko.here.cell 1 _ rfl
    have fz1 := Lib.frozen_of_heap ko.here 1
    have cz2 := ko.here.cell 2 _ rfl
    have fz2 := Lib.frozen_of_heap ko.here 2
    clear oy ky ko ka
    go_wp2
    refine bodyPost_ret (v := .agg #[.bool _, .slice Ay _ cy, .slice By _ dy]) (by simp [results, Tryz.results137, go_sem, cz0, cz1, cz2]; exact ⟨rfl, rfl, rfl⟩) rfl ?_
    refine HW.out _ ?_
    repeat (first | exact Chg.refl _ _ | refine Chg.setCell ?_ (by simp) _)
  · have ok' : okD a = false := by simpa using ok
    have HV := Lib.hid (show Q = zeroQ from EQ0.out.symm.trans (rat_bad ok))
    rw [ok']
    clear ok ok' ka
    have cz0 := ko.here.cell 0 _ rfl
    have fz0 := Lib.frozen_of_heap ko.here 0
    have cz1 := ko.here.cell 1 _ rfl
    have fz1 := Lib.frozen_of_heap ko.here 1
    have cz2 := ko.here.cell 2 _ rfl
    have fz2 := Lib.frozen_of_heap ko.here 2
    go_wp2
    refine bodyPost_ret (v := .agg #[.bool false, .slice none 0 0, .slice none 0 0]) (by simp [results, Tryz.results137, go_sem, cz0, cz1, cz2]) rfl ?_
    rw [HV.out]
    first | exact newQ_zeroD bb1 | exact newQ_zeroD (below_set3 bb1 (by omega))
end Go.Proofs.YtbpfabicampdkaaGreatDoor

namespace Go.Proofs.YtbpfabicampdkaaGreatDoor
open Go.RowKit

def MarkT (v : Value) (x : TI) (m : Int) (w : World) : Prop := ∃ u, v = .agg #[.string x.1, u] ∧ MkEP u x.2 m w
theorem mkRel_at {l : List EI} {e f : List CE} {m : Int} {W : World} {v : Value} {S : List Nat} (hl : e.length = l.length) (h : MkRel l e m l.length f W) (ho : W.ownsRow 0 41 5 v l.length (flatE f)) (h7 : ∀ b, v.ownBlock = some b → b ∈ S) (h8 : ∀ p ∈ e, ∀ b, p.2.2.2.1.ownBlock = some b → b ∈ S)
    (hS : ∀ g ∈ S, g < W.heap.size) : At S (MkEP v l m) W :=
  ⟨mkRel_end hl h ho, hS, fun w' hk => ⟨f, own_stays ho fun g hg => hk g (h7 g hg), by rw [h.1, hl], fun j x p hx hp => by
    have h3 := h.2.2 j x p hx hp
    rw [if_pos (List.getElem?_eq_some_iff.1 hx).1] at h3
    obtain ⟨a1, a2, a3, a4, a5⟩ := h3
    refine ⟨a1, a2, a3, a4, own_stays a5 fun g hg => hk g ?_⟩
    have hj := (List.getElem?_eq_some_iff.1 hp).1
    have hje : j < e.length := by have := h.1; omega
    have := h.2.1 j _ p (List.getElem?_eq_getElem hje) hp
    exact h8 _ (List.getElem_mem hje) g (this ▸ hg)⟩⟩
set_option maxHeartbeats 1000000 in
set_option maxRecDepth 100000 in
theorem markT_cal (v : Value) (x : TI) (S : List Nat) (m : Int) (w : World) (hm : m + mkT x ≤ 9223372036854775807) (hm0 : 0 ≤ m) (h : At S (OwnT v x) w) :
    Calls Tryz.prog 32 #[v, .int .i64 m] w fun e w' => e = .returned (.int .i64 (m + mkT x)) ∧ At S (MarkT v x m) w' ∧ Chg S w w' := by
  obtain ⟨A, c, rfl⟩ := ownT_form h.here
  have hbx := below_al (Below.refl w.heap.size w) (.cells #[.string x.1, .slice A x.2.length c] 25)
  have kx := box_new w #[.string x.1, .slice A x.2.length c] 25
  have ax : At S (OwnEP (.slice A x.2.length c) x.2) _ := (h.below hbx).imp fun _ k => ownT_open k
  obtain ⟨e, h4, hl, h5, h6, h7, h8⟩ := atEP_mem ax
  have kx_c0 := kx.here.cell 0 _ rfl
  have kx_c1 := kx.here.cell 1 _ rfl
  have HZ := Lib.hid (show mkT x = mkEL x.2 from rfl)
  have HBX := Lib.hid hbx
  have HLT := Lib.hid h.lt
  have HM := Lib.hid (markRateS_any _ e x.2 S m _ hm hm0 h4 hl h5 h6 h7 h8)
  have H7 := Lib.hid h7
  have H8 := Lib.hid h8
  have HL := Lib.hid hl
  clear h kx ax h4 hl h5 h6 h7 h8
  go_enter Tryz.func32, Tryz.ntmps32
  go_wp2_with fail
  clear kx_c0 kx_c1
  refine HM.out.mono ?_
  rintro e' w1 ⟨rfl, ⟨f, hf, hfr⟩, c1⟩
  have hchg := Lib.hid ((Chg.of_below HBX.out).trans c1 : Chg S w w1)
  have hall := Lib.hid ((mkRel_at HL.out hfr hf H7.out H8.out (fun i hi => Nat.lt_of_lt_of_le (HLT.out i hi) hchg.out.size)).imp fun _ k => (⟨_, rfl, k⟩ : MarkT (.agg #[.string x.1, .slice A x.2.length c]) x m _))
  clear c1 HM hf hfr
  go_wp2
  go_ret
  exact ⟨ret_int (by rw [HZ.out]), hall.out, hchg.out⟩
/-- what a call answers: a new table and a bool -/
def PostTb (R0 : TI) (R1 : Bool) (w : World) (e : Ending) (w' : World) : Prop :=
  ∃ (v : Value) (S : List Nat), e = .returned (.tuple #[v, .bool R1]) ∧ At S (OwnT v R0) w' ∧ Within S w.heap.size w'.heap.size ∧ Below w.heap.size w w'
theorem postTb_is {q : TI × Bool} {X : TI} {b : Bool} (e : q = (X, b)) {w w' : World} {n : Ending} (h : PostTb q.1 q.2 w n w') : PostTb X b w n w' := by rw [e] at h; exact h
theorem postTb_eq {q p : TI × Bool} (e : q = p) {w w' : World} {n : Ending} (h : PostTb q.1 q.2 w n w') : PostTb p.1 p.2 w n w' := by rw [e] at h; exact h
def zeroT : TI := (⟨#[]⟩, [])
theorem postTb_chg {S T : List Nat} {v : Value} {x : TI} {b : Bool} {w W : World} (o : At S (OwnT v x) W) (hd : ∀ i ∈ S, i ∉ T) (hT : ∀ i ∈ T, w.heap.size ≤ i) (l : ∀ i ∈ S, w.heap.size ≤ i) (hW : Below w.heap.size w W) :
    ∀ W', Chg T W W' → PostTb x b w (.returned (.tuple #[v, .bool b])) W' :=
  fun _ hc => ⟨v, S, rfl, o.chg hc hd, fun i hi => ⟨l i hi, Nat.lt_of_lt_of_le (o.lt i hi) hc.size⟩, below_chg hW hc hW.size hT⟩
theorem chg_set2T {r : Nat} {c0 c1 : Value} {W : World} : Chg [r] W ((W.setCell ⟨r, 0, none⟩ c0).setCell ⟨r, 1, none⟩ c1) := ((Chg.refl _ _).setCell (by simp) _).setCell (by simp) _
theorem ownT_zero (w : World) : OwnT (.agg #[.string ⟨#[]⟩, .slice none 0 0]) zeroT w := ⟨_, rfl, [], World.ownsRow_nil _ _ _ _, rfl, fun j x p hx => by simp [zeroT] at hx, ⟨fun i j p q b hp => by simp at hp, fun i p b hp => by simp at hp⟩⟩
theorem atT_zero (w : World) : At [] (OwnT (.agg #[.string ⟨#[]⟩, .slice none 0 0]) zeroT) w := ⟨ownT_zero _, fun _ hg => absurd hg List.not_mem_nil, fun w' _ => ownT_zero w'⟩
theorem newTb_zero {w W : World} (b : Bool) (hW : Below w.heap.size w W) : PostTb zeroT b w (.returned (.tuple #[.agg #[.string ⟨#[]⟩, .slice none 0 0], .bool b])) W :=
  ⟨_, [], rfl, atT_zero _, fun _ hg => absurd hg List.not_mem_nil, hW⟩
theorem newTb_at {r B : Nat} {S : List Nat} {c0 c1 : Value} {x : TI} {b : Bool} {w W : World} (o : At S (OwnT (.agg #[c0, c1]) x) W) (l : Within S B W.heap.size) (hrB : r < B) (hr : w.heap.size ≤ r) (hW : Below w.heap.size w W) :
    PostTb x b w (.returned (.tuple #[.agg #[c0, c1], .bool b])) ((W.setCell ⟨r, 0, none⟩ c0).setCell ⟨r, 1, none⟩ c1) :=
  postTb_chg o (fun i hi hm => by have := l i hi; simp at hm; omega) (fun i hi => by simp at hi; omega) (fun i hi => by have := l i hi; omega) hW _ chg_set2T
end Go.Proofs.YtbpfabicampdkaaGreatDoor

namespace Go.Proofs.YtbpfabicampdkaaGreatDoor
open Go.RowKit

theorem take_eq_succ {α : Type} {ss ts : List α} {k : Nat} (h : ss.take k = ts.take k) (h1 : k < ss.length) (h2 : k < ts.length) (e : ss[k] = ts[k]) : ss.take (k + 1) = ts.take (k + 1) := by
  rw [List.take_succ_eq_append_getElem h1, List.take_succ_eq_append_getElem h2, h, e]
theorem ne_of_get {α : Type} {ss ts : List α} {k : Nat} (h1 : k < ss.length) (h2 : k < ts.length) (e : ¬ ss[k] = ts[k]) : ¬ ss = ts := by
  intro h
  subst h
  exact e rfl

theorem bytes_ne {a b : ByteArray} (h : ¬ a = b) : (a.toList == b.toList) = false := by
  rw [beq_eq_false_iff_ne, ByteArray.toList_eq, ByteArray.toList_eq]
  exact fun e => h (WideShapes.bytes_inj e)
theorem eq_of_takes {α : Type} {ss ts : List α} {k : Nat} (h : ss.take k = ts.take k) (hl : ss.length = ts.length) (hk : ¬ k < ss.length) : ss = ts := by
  rwa [List.take_of_length_le (by omega), List.take_of_length_le (by omega)] at h

set_option maxHeartbeats 400000 in
set_option maxRecDepth 100000 in
theorem eqStringS_any (va vb : Value) (ss ts : List ByteArray) (la ha lb hb : Nat) (w : World) (hl : ss.length ≤ 9223372036854775807)
    (hra : Row w la ha va (ss.map Value.string)) (hrb : Row w lb hb vb (ts.map Value.string)) :
    Calls Tryz.prog 36 #[va, vb] w fun e w' => e = .returned (.bool (decide (ss = ts))) ∧ ∃ q, w.drewN q = w' := by
  obtain ⟨A, c, rfl, hA⟩ := hra
  obtain ⟨B, d, rfl, hB⟩ := hrb
  rw [List.length_map, List.length_map] 
  have HA := Lib.hid hA
  have HB := Lib.hid hB
  clear hA hB
  by_cases hlen : ss.length = ts.length
  · have HL := Lib.hid hlen
    have hbe : ((ss.length : Int) != (ts.length : Int)) = false := by simp [hlen]
    clear hlen
    go_enter Tryz.func36, Tryz.ntmps36
    go_wp2
    go_loopw [5] (fun i wr => ∃ k q : Nat, k ≤ ss.length ∧ i = .int .i64 k ∧ wr = w.drewN q ∧ Hid (ss.take k = ts.take k)) (fun i _ => ss.length - (intOf i).toNat)
    case atStart => exact ⟨0, 0, Nat.zero_le _, rfl, rfl, Lib.hid rfl⟩
    case round =>
      obtain ⟨k, q, hk, rfl, rfl, HT⟩ := hrel
      by_cases hlt : k < ss.length
      · have hlt2 : k < ts.length := by have := HL.out; omega
        obtain ⟨a, rfl, _, _, hca⟩ := HA.out k (.string ss[k]) (by simp [hlt])
        obtain ⟨b, rfl, _, _, hcb⟩ := HB.out k (.string ts[k]) (by simp [hlt2])
        by_cases he : ss[k] = ts[k]
        · rw [← he] at hcb
          have HE := Lib.hid he
          clear he
          go_wp2
          go_quiet (fail)
          go_wp2
          go_roundw
          case rel => exact ⟨k + 1, _, by omega, by go_num, rfl, Lib.hid (take_eq_succ HT.out hlt hlt2 HE.out)⟩
          case measure => simp [intOf]; omega
        · have hne := bytes_ne he
          go_wp2
          go_quiet (fail)
          go_wp2
          go_ret
          exact ⟨ret_bool (decide_eq_false (ne_of_get hlt hlt2 he)).symm, _, (World.drewN_drewN _ _ _).symm⟩
      · go_wp2
        go_ret
        exact ⟨ret_bool (decide_eq_true (eq_of_takes HT.out HL.out hlt)).symm, q, rfl⟩
  · have hbe : ((ss.length : Int) != (ts.length : Int)) = true := by simp; omega
    go_enter Tryz.func36, Tryz.ntmps36
    go_wp2
    go_ret
    exact ⟨ret_bool (decide_eq_false (fun e => hlen (by rw [e]))).symm, 0, rfl⟩

/-- the texts of the numbers from m on -/
def marksS (m : Int) (n : Nat) : List Value := (List.range n).map fun i : Nat => Value.string (markB (m + (i : Int)))
theorem marksS_succ (m : Int) (n : Nat) : marksS m (n + 1) = marksS m n ++ [Value.string (markB (m + (n : Int)))] := by
  simp [marksS, List.range_succ]
theorem marksS_length (m : Int) (n : Nat) : (marksS m n).length = n := by simp [marksS]
theorem marksS_get (m : Int) (n k : Nat) (h : k < n) : (marksS m n)[k]? = some (Value.string (markB (m + (k : Int)))) := by simp [marksS, h]
theorem set_mid (m : Int) (k : Nat) (xs : List Value) (h : k < xs.length) : (marksS m k ++ xs.drop k).set k (Value.string (markB (m + (k : Int)))) = marksS m (k + 1) ++ xs.drop (k + 1) := by
  rw [List.set_append_right _ _ (by rw [marksS_length]; omega), marksS_length, Nat.sub_self, List.drop_eq_getElem_cons h, List.set_cons_zero, marksS_succ, List.append_assoc]
  rfl

set_option maxHeartbeats 400000 in
set_option maxRecDepth 100000 in
/-- marking writes the texts of the numbers from m on -/
theorem markStringS_any (v : Value) (n : Nat) (xs : List Value) (base : Nat) (m : Int) (w : World) (hm : m + n ≤ 9223372036854775807) (hm0 : 0 ≤ m)
    (ho : w.ownsRow base 9 1 v n xs) :
    Calls Tryz.prog 37 #[v, .int .i64 m] w fun e w' => e = .returned (.int .i64 (m + n)) ∧ w'.ownsRow base 9 1 v n (marksS m n) ∧ w.grownBy w' v.ownBlock := by
  rcases ho.2 with ⟨rfl, rfl⟩ | ⟨g, cap, cur, rfl, hb, hh, hnc, hcm, hcs, ht⟩
  · go_enter Tryz.func37, Tryz.ntmps37
    go_wp2
    refine wp_loop_rounds 1 ?_
    rw [rounds_succ]
    go_wp2
    go_ret
    exact ⟨ret_int (by omega), ⟨rfl, .inl ⟨rfl, rfl⟩⟩, World.grownBy.refl _ _⟩
  · have hxl := Lib.hid ho.1
    have HO := Lib.hid ho
    clear ho hh hcs ht
    go_enter Tryz.func37, Tryz.ntmps37
    go_wp2
    go_loopw [1, 5] (fun a i wr => ∃ k : Nat, k ≤ n ∧ i = .int .i64 k ∧ a = .int .i64 (m + k) ∧ wr.ownsRow base 9 1 (.slice (some ⟨g, 0, none⟩) n cap) n (marksS m k ++ xs.drop k) ∧ w.grownBy wr (some g)) (fun _ i _ => n - (intOf i).toNat)
    case atStart => exact ⟨0, Nat.zero_le _, rfl, by simp, HO.out, World.grownBy.refl _ _⟩
    case round =>
      obtain ⟨k, hk, rfl, rfl, ho, hg⟩ := hrel
      by_cases hlt : k < n
      · go_wp2_with fail
        refine (markText_any _ _ (by omega)).mono ?_
        rintro e w1 ⟨rfl, hb1⟩
        have ho1 := own_below ho hb1
        have hcell := ho1.cellAt k (by omega)
        rw [List.getElem?_eq_getElem (by simp [marksS_length]; have := hxl.out; omega)] at hcell
        have hfr := ho1.frozenAt k
        obtain ⟨ho2, hg2⟩ := ho1.stored k (Value.string (markB (m + (k : Int))))
        rw [set_mid m k xs (by have := hxl.out; omega)] at ho2
        have hg3 := grown_trans (grown_below hg hb1) hg2
        go_wp2
        go_roundw
        case rel => exact ⟨k + 1, by omega, by go_num, by go_num, ho2, hg3⟩
        case measure => simp [intOf]; omega
      · obtain rfl : k = n := by omega
        rw [List.drop_of_length_le (by have := hxl.out; omega), List.append_nil] at ho
        go_wp2
        go_ret
        exact ⟨rfl, ho, hg⟩

/-- a cell that is known, in a world in which nothing old has changed -/
def KeptM (w : World) (p : Addr) (u : Value) (W : World) : Prop := W.cell? p = some u ∧ Below w.heap.size w W
theorem KeptM.start {w W : World} {p : Addr} {u : Value} (hb : Below w.heap.size w W) (hp : p.block < w.heap.size) (h : w.cell? p = some u) : KeptM w p u W := ⟨(hb.cell hp).trans h, hb⟩
theorem KeptM.next {w W w1 : World} {p : Addr} {u : Value} (h : KeptM w p u W) (hp : p.block < w.heap.size) (hb : Below W.heap.size W w1) : KeptM w p u w1 :=
  ⟨(hb.cell (Nat.lt_of_lt_of_le hp h.2.size)).trans h.1, Below.next h.2 hb⟩

set_option maxHeartbeats 400000 in
set_option maxRecDepth 100000 in
/-- a slice that bears the texts of the numbers from m on is held -/
theorem heldStringS_any (v : Value) (n lo hi : Nat) (m : Int) (w : World) (hm : m + n ≤ 9223372036854775807) (hm0 : 0 ≤ m) (hhi : hi ≤ w.heap.size)
    (hr : Row w lo hi v (marksS m n)) :
    Calls Tryz.prog 38 #[v, .int .i64 m] w fun e w' => e = .returned (.int .i64 (m + n)) ∧ Below w.heap.size w w' := by
  obtain ⟨A, c, rfl, hA⟩ := hr
  rw [marksS_length]
  have HA := Lib.hid hA
  clear hA
  go_enter Tryz.func38, Tryz.ntmps38
  go_wp2
  go_loopw [1, 5] (fun a i wr => ∃ k : Nat, k ≤ n ∧ i = .int .i64 k ∧ a = .int .i64 (m + k) ∧ Below w.heap.size w wr) (fun _ i _ => n - (intOf i).toNat)
  case atStart => exact ⟨0, Nat.zero_le _, rfl, by simp, Below.refl _ _⟩
  case round =>
    obtain ⟨k, hk, rfl, rfl, hb⟩ := hrel
    by_cases hlt : k < n
    · obtain ⟨a, rfl, _, hab, hca⟩ := HA.out k _ (marksS_get m n k hlt)
      have hab' : (a.add k).block < w.heap.size := by rw [block_add]; omega
      obtain ⟨hc0, _⟩ := KeptM.start hb hab' hca
      go_wp2
      go_region_held3 (fun W => W.cell? (a.add k) = some (Value.string (markB (m + (k : Int)))) ∧ Below w.heap.size w W) (first | exact ⟨by go_keep, hb.drew⟩ | exact KeptM.next ‹_ ∧ _› hab' hb1)
        (first | (go_at_call 88; refine (markText_any _ _ (by omega)).mono ?_; rintro e w1 ⟨rfl, hb1⟩))
      go_wp2
      go_roundw
      case rel => exact ⟨k + 1, by omega, by go_num, by go_num, Below.next hb.drew hb1⟩
      case measure => simp [intOf]; omega
    · obtain rfl : k = n := by omega
      go_wp2
      go_ret
      exact ⟨rfl, hb⟩
end Go.Proofs.YtbpfabicampdkaaGreatDoor

namespace Go.Proofs.YtbpfabicampdkaaGreatDoor
open Go.RowKit

theorem strInfoD : (Tryz.prog.info? 9).map (fun i => (i.zero, i.size, i.bytes)) = some (some (.string ⟨#[]⟩), 1, 16) := by kernel_rfl
theorem joinTo_leftD (b : ByteArray) (l : List ByteArray) (x : ByteArray) : ∀ k, k ≤ l.length → joinTo b (l ++ [x]) k = joinTo b l k := by
  intro k
  induction k with
  | zero => intro _; rfl
  | succ k ih =>
    intro hk
    have e : (l ++ [x]).getD k ByteArray.empty = l.getD k ByteArray.empty := by
      rw [List.getD_eq_getElem?_getD, List.getD_eq_getElem?_getD, List.getElem?_append_left (by omega)]
    rw [joinTo, joinTo, ih (by omega), e]
/-- nothing between the parts: one part more is laid behind -/
theorem joinB_snoc (l : List ByteArray) (x : ByteArray) : joinB ⟨#[]⟩ (l ++ [x]) = joinB ⟨#[]⟩ l ++ x := by
  have e : (l ++ [x]).getD l.length ByteArray.empty = x := by simp
  apply ByteArray.ext
  unfold joinB
  rw [List.length_append, List.length_singleton, joinTo, joinTo_leftD _ l x _ (Nat.le_refl _), e, ByteArray.data_append]
  simp
theorem joinB_one (x : ByteArray) : joinB ⟨#[]⟩ [x] = x := by
  apply ByteArray.ext
  simp [joinB, joinTo]


/-- the parts so far are the text of the limbs from k on -/
def PartsR (a : List Int) (k : Nat) (ss : List ByteArray) : Prop := joinB ⟨#[]⟩ ss = natT (a.drop k) ∧ (∀ s ∈ ss, s.size ≤ 1048576) ∧ ss.length + k ≤ a.length
theorem PartsR.next {a : List Int} {j : Nat} {ss : List ByteArray} (h : PartsR a (j + 1) ss) (hj : j + 1 < a.length) (hd : DigN a) : PartsR a j (ss ++ [padB (numB a[j]) 9]) := by
  obtain ⟨h1, h2, h3⟩ := h
  refine ⟨by rw [joinB_snoc, h1, natT_step a j hj], ?_, by simp; omega⟩
  intro s hs
  rcases List.mem_append.1 hs with hs | hs
  · exact h2 s hs
  · rw [List.mem_singleton.1 hs, pad_nine (hd.at_ j (by omega))]
    omega
set_option maxHeartbeats 1000000 in
set_option maxRecDepth 100000 in
theorem implNatText_any (v : Value) (a : List Int) (lo hi : Nat) (w : World) (hl : a.length ≤ 1048576) (hhi : hi ≤ w.heap.size) (hr : Row w lo hi v (intsV a)) (ht : Tab w) :
    Calls Tryz.prog 129 #[v] w fun e w' => e = .returned (.string (natTextB a)) ∧ Below w.heap.size w w' := by
  obtain ⟨i0, hi0, hz0, hz1, hz2⟩ := info_parts strInfoD
  have hr0 := hr
  obtain ⟨A, c, rfl, hA⟩ := hr
  rw [intsV_length] at hr0 ⊢
  by_cases ok : natOkB a = true
  · have HV := Lib.hid (show natTextB a = natT a by unfold natTextB; rw [if_pos ok])
    by_cases h0 : a.length = 0
    · have HA := Lib.hid (show a = [] from List.length_eq_zero_iff.1 h0)
      have H0 := Lib.hid h0
      clear h0
      go_enter Tryz.func129, Tryz.ntmps129
      go_wp2_with fail
      refine (implNatOk_same _ a lo hi _ (by omega) hr0).mono ?_
      rintro e w' ⟨rfl, rfl⟩
      rw [ok]
      have h0 := H0.out
      go_wp2
      go_ret
      exact ⟨by rw [HV.out, HA.out]; rfl, Below.refl _ _⟩
    · have hpos : 0 < a.length := by omega
      obtain ⟨ad, rfl, hlo, hbh, hc1⟩ := hA (a.length - 1) _ (intsV_at a (a.length - 1) (by omega))
      have HA := Lib.hid hA
      have PA := Lib.hid (natOk_parts ok).1
      have hlim := (natOk_parts ok).1.at_ (a.length - 1) (by omega)
      have h50 := (natOk_parts ok).2.1
      have hls := limb_nine hlim
      have hix : ((a.length : Int) - 1).toNat = a.length - 1 := by omega
      have hz : ((a.length : Int) == 0) = false := by rw [beq_eq_false_iff_ne]; omega
      have HL : Hid (PartsR a (a.length - 1) [numB a[a.length - 1]]) := Lib.hid ⟨by rw [joinB_one, natT_last a hpos], (fun s hs => by rw [List.mem_singleton.1 hs]; omega), by simp; omega⟩
      clear hA h0
      go_enter Tryz.func129, Tryz.ntmps129
      go_wp2_with fail
      refine (implNatOk_same _ a lo hi _ (by omega) hr0).mono ?_
      rintro e w' ⟨rfl, rfl⟩
      rw [ok]
      go_wp2_with fail
      refine (implIntText_any _ _ (by omega) (by omega) ht).mono ?_
      rintro e w1 ⟨rfl, b1⟩
      go_wp2
      go_loopw [4, 5] (fun s i wr => ∃ (k : Nat) (ss : List ByteArray), k < a.length ∧ i = .int .i64 ((k : Int) - 1) ∧ Hid (PartsR a k ss) ∧ wr.ownsRow w.heap.size 9 1 s ss.length (ss.map Value.string) ∧ Below w.heap.size w wr) (fun _ i _ => (intOf i + 1).toNat)
      case atStart => exact ⟨a.length - 1, [numB a[a.length - 1]], by omega, by congr 1; omega, HL, ⟨rfl, .inr ⟨w1.heap.size, 1, _, rfl, b1.size, heap_alloc_new w1 _, Nat.le_refl _, by unfold maxLen; omega, rfl, rfl⟩⟩, b1.alloc b1.size _⟩
      case round =>
        obtain ⟨k, ss, hk, rfl, HP, hown, hb⟩ := hrel
        have hsl : ss.length ≤ 50 := by have := HP.out.2.2; omega
        by_cases hk0 : 0 < k
        · obtain ⟨j, rfl⟩ : ∃ j, k = j + 1 := ⟨k - 1, by omega⟩
          have hcj : wr.cell? (ad.add j) = some (.int .i64 a[j]) := by
            obtain ⟨_, e, _, _, h⟩ := HA.out j _ (intsV_at a j (by omega))
            cases e
            exact (hb.cell (by rw [block_add]; omega)).trans h
          have hj := PA.out.at_ j (by omega)
          have hlj := limb_nine hj
          have HN := Lib.hid (HP.out.next hk PA.out)
          have e1 : (((j + 1 : Nat) : Int) - 1) = (j : Int) := by omega
          rw [e1]
          clear e1 hk0
          go_wp2_with fail
          refine (implIntText_any _ _ (by omega) (by omega) (ht.below hb)).mono ?_
          rintro e w2 ⟨rfl, b2⟩
          go_wp2_with fail
          refine (implPad_any _ _ _ (by omega) (by omega) (by omega)).mono ?_
          rintro e w3 ⟨rfl, b3⟩
          have hown3 := own_below (own_below hown b2) b3
          have hb3 : Below w.heap.size w w3 := Below.next (Below.next hb b2) b3
          go_wp2_with (at_builtin; refine wpList_append_own _ rfl _ _ 36 rfl w.heap.size 9 i0 (.string ⟨#[]⟩) 1 16 Tryz.underlying36 hi0 hz0 hz1 hz2 rfl (by decide) _ _ _ rfl (own_alloc hown3 _) ⟨w3.heap.size, 0, none⟩ 1 1 [.string (padB (numB a[j]) 9)] rfl rfl (one_new _ _ _) ?c2 ?c3 ?c4 ?c5 ?_)
          case c2 => first | (intro u hu; simp at hu; subst hu; rfl) | rfl
          case c3 => unfold maxLen; omega
          case c4 => omega
          case c5 => have := hb3.size; simp; omega
          intro v1 w4 hown4 hg4 _
          have hb4 := below_push hb3 (Nat.le_refl _) hown3 hg4
          go_wp2
          exact ⟨⟨j, ss ++ [padB (numB a[j]) 9], by omega, rfl, HN, by simpa using hown4, hb4⟩, by simp [intOf]⟩
        · obtain rfl : k = 0 := by omega
          go_wp2_with fail
          refine (implJoin_any _ ⟨#[]⟩ ss w.heap.size _ _ (Nat.le_refl _) (by omega) (by decide) HP.out.2.1 (Row.of_own hown)).mono ?_
          rintro e w2 ⟨rfl, b2⟩
          go_wp2
          go_ret
          exact ⟨ret_str (by rw [HV.out, HP.out.1]; rfl), Below.next hb b2⟩
  · have okf : natOkB a = false := by simpa using ok
    have HV := Lib.hid (show natTextB a = ⟨#[]⟩ by unfold natTextB; rw [if_neg ok])
    clear hA ok
    go_enter Tryz.func129, Tryz.ntmps129
    go_wp2_with fail
    refine (implNatOk_same _ a lo hi _ (by omega) hr0).mono ?_
    rintro e w' ⟨rfl, rfl⟩
    rw [okf]
    go_wp2
    go_ret
    exact ⟨ret_str HV.out.symm, Below.refl _ _⟩
end Go.Proofs.YtbpfabicampdkaaGreatDoor

namespace Go.Proofs.YtbpfabicampdkaaGreatDoor
open Go.RowKit

theorem extract_listD (s : ByteArray) (a b : Nat) : (s.extract a b).data.toList = (s.data.toList.take b).drop a := by
  simp [ByteArray.data_extract, List.drop_take]
end Go.Proofs.YtbpfabicampdkaaGreatDoor

namespace Go.Proofs.YtbpfabicampdkaaGreatDoor
open Go.RowKit

/-- the limbs that are read are those of the value -/
theorem read_limbs (s : ByteArray) (hd : DigL s.data.toList) : trimL (groups s.data.toList s.size) = limbs (valL s.data.toList).toNat := by
  have hv := groups_val s.data.toList hd s.size (Nat.le_refl _)
  rw [take_full] at hv
  rw [← hv.1, trim_limbs _ hv.2.1]
theorem read_len (s : ByteArray) (hd : DigL s.data.toList) (h : s.size ≤ 450) : (limbs (valL s.data.toList).toNat).length ≤ 50 := by
  rw [← read_limbs s hd]
  have h1 := trimL_length (groups s.data.toList s.size)
  have h2 := groups_len s.data.toList s.size
  omega
/-- the number is written as it was read where the text is a numeral -/
theorem read_text (s : ByteArray) (hd : digitsB s = true) (h : s.size ≤ 450) : natTextB (limbs (valL s.data.toList).toNat) = s ↔ decOk s = true := by
  obtain ⟨h1, h2⟩ := (digitsB_iff s).1 hd
  have hne : s.data.toList ≠ [] := h2
  have e := natText_limbs _ (read_len s h1 h)
  have hdv := dec_val s.data.toList h1 hne
  have hsz : s.data.toList.length = s.size := rfl
  constructor
  · intro hs
    rw [hs] at e
    have hn := hdv.1 e.symm
    unfold decOk
    rw [hd, decide_eq_true h]
    by_cases hc : 1 < s.size
    · have : ¬ s.data.toList.headD 0 = 48 := fun e2 => hn ⟨by omega, e2⟩
      rw [decide_eq_false this]
      simp
    · rw [decide_eq_false hc]
      simp
  · intro ho
    apply WideShapes.bytes_inj
    rw [e]
    apply hdv.2
    rintro ⟨hc1, hc2⟩
    unfold decOk at ho
    rw [decide_eq_true (show 1 < s.size by omega), decide_eq_true hc2] at ho
    simp at ho
end Go.Proofs.YtbpfabicampdkaaGreatDoor

namespace Go.Proofs.YtbpfabicampdkaaGreatDoor
open Go.RowKit

/-- the text of a signed number -/
def intStrB (x : SI) : ByteArray := if okS x = true then (if x.1 = true then ⟨#[45]⟩ ++ natTextB x.2 else natTextB x.2) else ⟨#[]⟩
/-- the number that a text is read as, and whether it is one -/
def siR (s : ByteArray) : SI := if decOk (bareB s) = true ∧ ¬ (negB s = true ∧ (tnR (bareB s)).length = 0) then (negB s, tnR (bareB s)) else zeroS
def siB (s : ByteArray) : Bool := decide (decOk (bareB s) = true ∧ ¬ (negB s = true ∧ (tnR (bareB s)).length = 0))
theorem tnR_ok {s : ByteArray} (h : decOk s = true) : natOkB (tnR s) = true := by
  have hd : digitsB s = true := by
    by_cases hd : digitsB s = true
    · exact hd
    · rw [decOk_dig s (by simpa using hd)] at h; exact absurd h (by decide)
  have h4 : s.size ≤ 450 := by
    by_cases h4 : s.size ≤ 450
    · exact h4
    · rw [decOk_long s h4] at h; exact absurd h (by decide)
  unfold tnR
  rw [if_pos h]
  exact limbs_okL _ (read_len s ((digitsB_iff s).1 hd).1 h4)
theorem tnR_bad {s : ByteArray} (h : ¬ decOk s = true) : tnR s = [] := by unfold tnR; rw [if_neg h]
theorem bareB_le (s : ByteArray) : (bareB s).size ≤ s.size := by
  cases h : negB s with
  | true => rw [← bareB_tail s h, ByteArray.size_extract]; omega
  | false => rw [bareB_self s h]; exact Nat.le_refl _
/-- a new signed number, and a bool -/
def NewSb (x : SI) (b : Bool) (w : World) (e : Ending) (w' : World) : Prop := ∃ u, e = .returned (.tuple #[.agg #[.bool x.1, u], .bool b]) ∧ w'.ownsRow w.heap.size 3 1 u x.2.length (intsV x.2) ∧ Below w.heap.size w w'
theorem newSb_ret {r : Nat} {u c0 c1 : Value} {x : SI} {b : Bool} {w W : World} {B : Nat} (hb : BoxAt r #[c0, c1] 30 W) (o : W.ownsRow B 3 1 u x.2.length (intsV x.2)) (hB : w.heap.size ≤ B) (hr : w.heap.size ≤ r) (hW : Below w.heap.size w W) :
    NewSb x b w (.returned (.tuple #[.agg #[.bool x.1, u], .bool b])) ((W.setCell ⟨r, 0, none⟩ (.bool x.1)).setCell ⟨r, 1, none⟩ u) := by
  have hne := Lib.ownBlock_ne o hb (by decide)
  refine ⟨u, rfl, own_low (own_stays o fun i hi => ?_) hB, below_set2 hW hr⟩
  have : i ≠ r := fun e => hne (by rw [hi, e])
  exact (Below.heap_setCell _ _ _ _ this).trans (Below.heap_setCell _ _ _ _ this)
theorem newSb_zeroT {b : Bool} {w W : World} (hW : Below w.heap.size w W) : NewSb zeroS b w (.returned (.tuple #[.agg #[.bool false, .slice none 0 0], .bool b])) W := ⟨_, rfl, World.ownsRow_nil _ _ _ _, hW⟩

set_option maxHeartbeats 1000000 in
set_option maxRecDepth 100000 in
theorem implIntStr_any (v : Value) (x : SI) (w : World) (hl : x.2.length ≤ 1048576) (h : RdS w v x) (ht : Tab w) :
    Calls Tryz.prog 127 #[v] w fun e w' => e = .returned (.string (intStrB x)) ∧ Below w.heap.size w w' := by
  obtain ⟨u, rfl, hp⟩ := h
  obtain ⟨A, c, rfl⟩ := row_form hp
  rw [intsV_length] at hp
  rw [intsV_length]
  have hbx : Below w.heap.size w (w.alloc (.cells #[.bool x.1, .slice A x.2.length c] 30)) := below_al (Below.refl _ _) _
  have kb := box_new w #[.bool x.1, .slice A x.2.length c] 30
  have hrd := rdS_below hp hbx
  by_cases okx : okS x = true
  · have HV := Lib.hid (show intStrB x = if x.1 = true then ⟨#[45]⟩ ++ natTextB x.2 else natTextB x.2 by unfold intStrB; rw [if_pos okx])
    have hts := natTextB_size x.2
    go_enter Tryz.func127, Tryz.ntmps127
    go_wp2_with fail
    refine (implIntOk_any _ x _ hl hrd).mono ?_
    rintro e w1 ⟨rfl, b1⟩
    rw [okx]
    have bb1 := Below.next hbx b1
    replace kb := kb.below b1
    have hrow : Row w1 0 w.heap.size (.slice A x.2.length c) (intsV x.2) := hp.below bb1 (Nat.le_refl _)
    have hsz := bb1.size
    have cb0 := kb.here.cell 0 _ rfl
    have cb1 := kb.here.cell 1 _ rfl
    clear hrd okx hp
    cases hn : x.1 with
    | true =>
      rw [hn] at cb0 HV
      clear hn
      go_wp2_with fail
      refine (implNatText_any _ x.2 0 w.heap.size _ hl hsz hrow (ht.below bb1)).mono ?_
      rintro e w2 ⟨rfl, b2⟩
      have bb2 := Below.next bb1 b2
      generalize natTextB x.2 = t at *
      clear hrow
      go_wp2
      go_ret
      exact ⟨ret_str (by rw [HV.out]; rfl), bb2⟩
    | false =>
      rw [hn] at cb0 HV
      clear hn
      go_wp2_with fail
      refine (implNatText_any _ x.2 0 w.heap.size _ hl hsz hrow (ht.below bb1)).mono ?_
      rintro e w2 ⟨rfl, b2⟩
      have bb2 := Below.next bb1 b2
      generalize natTextB x.2 = t at *
      clear hrow
      go_wp2
      go_ret
      exact ⟨ret_str (by rw [HV.out]; rfl), bb2⟩
  · have okx' : okS x = false := by simpa using okx
    have HV := Lib.hid (show intStrB x = ⟨#[]⟩ by unfold intStrB; rw [if_neg okx])
    clear okx
    go_enter Tryz.func127, Tryz.ntmps127
    go_wp2_with fail
    refine (implIntOk_any _ x _ hl hrd).mono ?_
    rintro e w1 ⟨rfl, b1⟩
    rw [okx']
    have bb1 := Below.next hbx b1
    clear kb hrd
    go_wp2
    go_ret
    exact ⟨ret_str HV.out.symm, bb1⟩


end Go.Proofs.YtbpfabicampdkaaGreatDoor

namespace Go.Proofs.YtbpfabicampdkaaGreatDoor
open Go.RowKit

theorem cmpI_range (X Y : Int) : -1 ≤ cmpI X Y ∧ cmpI X Y ≤ 1 := by unfold cmpI; split <;> (try split) <;> omega
theorem text_backI {X : Nat} (hx : (X : Int) < bp 5) : decOk (natTextB (limbs X)) = true ∧ tnR (natTextB (limbs X)) = limbs X ∧ digitsB (natTextB (limbs X)) = true := by
  have h5 : (limbs X).length ≤ 5 := limbs_length_le X 5 hx
  have e : (natTextB (limbs X)).data.toList = Lib.decDigits X := natText_limbs X (by omega)
  have hd := dig_dec X
  have hdig : digitsB (natTextB (limbs X)) = true := by rw [digitsB_iff, e]; exact hd
  have hsz : (natTextB (limbs X)).size ≤ 450 := by
    have h1 : natTextB (limbs X) = natT (limbs X) := by unfold natTextB; rw [if_pos (limbs_okL X (by omega))]
    rw [h1]
    have := natT_size (limbs X) (limbs_digN X)
    omega
  have hok : decOk (natTextB (limbs X)) = true := by
    rw [← read_text _ hdig hsz, e, valL_dec, Int.toNat_natCast]
  refine ⟨hok, ?_, hdig⟩
  unfold tnR
  rw [if_pos hok, e, valL_dec, Int.toNat_natCast]
theorem neg_of_digits {t : ByteArray} (h : digitsB t = true) : negB t = false := by
  have h2 := (digitsB_iff t).1 h
  unfold negB
  rw [decide_eq_false_iff_not]
  intro e
  cases hl : t.data.toList with
  | nil => exact h2.2 hl
  | cons c r =>
    rw [hl] at e
    have := h2.1 c (by rw [hl]; exact List.mem_cons_self ..)
    simp at e
    subst e
    revert this
    decide
theorem minus_bare (t : ByteArray) : negB (⟨#[45]⟩ ++ t) = true ∧ bareB (⟨#[45]⟩ ++ t) = t := by
  have e : ((⟨#[45]⟩ : ByteArray) ++ t).data.toList = 45 :: t.data.toList := by simp
  constructor
  · unfold negB; rw [e]; rfl
  · apply WideShapes.bytes_inj
    rw [bareB_data, e]
    rfl
/-- a short right number is read back from its text -/
theorem str_back {x : SI} (h : okS x = true) (hl : x.2.length ≤ 4) : siR (intStrB x) = x ∧ siB (intStrB x) = true := by
  have hp := okS_parts h
  have hx := natOk_limbs hp.1
  have h1 := nval_lt x.2 (natOk_parts hp.1).1
  have h0 := nval_ok hp.1
  have h2 := bp_mono (show x.2.length ≤ 5 by omega)
  have ht := text_backI (X := (nval x.2).toNat) (by omega)
  rw [← hx] at ht
  have hc : ¬ (x.1 = true ∧ x.2.length = 0) := fun hh => by have := hp.2 hh.1; omega
  have both : negB (intStrB x) = x.1 ∧ bareB (intStrB x) = natTextB x.2 := by
    unfold intStrB
    rw [if_pos h]
    cases hn : x.1 with
    | true => rw [if_pos rfl]; exact minus_bare _
    | false => rw [if_neg (by decide)]; exact ⟨neg_of_digits ht.2.2, bareB_self _ (neg_of_digits ht.2.2)⟩
  unfold siR siB
  rw [both.1, both.2, ht.2.1, if_pos ⟨ht.1, hc⟩]
  exact ⟨rfl, decide_eq_true ⟨ht.1, hc⟩⟩
end Go.Proofs.YtbpfabicampdkaaGreatDoor

namespace Go.Proofs.YtbpfabicampdkaaGreatDoor
open Go.RowKit

/-- a point ahead of the last k digits -/
def pointB (s : ByteArray) (k : Int) : ByteArray := if 0 < k then s.extract 0 (s.size - k.toNat) ++ ⟨#[46]⟩ ++ s.extract (s.size - k.toNat) s.size else s
/-- the digits, at least one ahead of the point -/
def bodyD (d : DI) : ByteArray := padB (natTextB d.1.2) (d.2 + 1)
/-- DecText -/
def textD (d : DI) : ByteArray := if okD d = true then (if d.1.1 = true then (⟨#[45]⟩ : ByteArray) ++ pointB (bodyD d) d.2 else pointB (bodyD d) d.2) else ⟨#[]⟩
/-- the bytes that are neither a point nor a minus -/
def rawL (l : List UInt8) : List UInt8 := l.filter fun c => c != 46 && c != 45
/-- how many bytes stand behind the last point -/
def scaleF (l : List UInt8) : Nat → Int
  | 0 => 0
  | k + 1 => if l.getD k 0 = 46 then (l.length : Int) - 1 - k else scaleF l k
/-- noughts ahead are left out, as long as a digit stays -/
def stripL : List UInt8 → List UInt8
  | c :: e :: r => if c = 48 then stripL (e :: r) else c :: e :: r
  | l => l
def rawB (s : ByteArray) : ByteArray := ⟨(stripL (rawL s.data.toList)).toArray⟩
def scaleB (s : ByteArray) : Int := scaleF s.data.toList s.size
/-- what a text is read as -/
def parseD (s : ByteArray) : DI := ((decide (s.data.toList.headD 0 = 45), tnR (rawB s)), scaleB s)
def readD (s : ByteArray) : Bool := decOk (rawB s) && (okD (parseD s) && decide (textD (parseD s) = s))
/-- TextDec -/
def trD (s : ByteArray) : DI × Bool := if readD s = true then (parseD s, true) else (zeroD, false)

theorem listB {s t : ByteArray} (h : s.data.toList = t.data.toList) : s = t := by
  cases s with
  | mk a => cases t with
    | mk b => exact congrArg ByteArray.mk (Array.toList_inj.1 h)
theorem listB_len (s : ByteArray) : s.data.toList.length = s.size := rfl
theorem pad_list (s : ByteArray) (n : Int) : (padB s n).data.toList = List.replicate (n.toNat - s.size) 48 ++ s.data.toList := rfl
theorem point_list (s : ByteArray) (k : Int) : (pointB s k).data.toList = if 0 < k then s.data.toList.take (s.size - k.toNat) ++ 46 :: s.data.toList.drop (s.size - k.toNat) else s.data.toList := by
  unfold pointB
  split
  · rw [ByteArray.data_append, ByteArray.data_append, Array.toList_append, Array.toList_append, extract_listD, extract_listD, List.drop_zero, List.take_of_length_le (Nat.le_of_eq (listB_len s))]
    show s.data.toList.take _ ++ [46] ++ _ = _
    rw [List.append_assoc]
    rfl
  · rfl
/-- the digits of a right number -/
structure BodyD (d : DI) (n m : Nat) : Prop where
  mag : d.1.2 = limbs n
  digits : (natTextB d.1.2).data.toList = Lib.decDigits n
  list : (bodyD d).data.toList = List.replicate m 48 ++ Lib.decDigits n
  dig : DigL (bodyD d).data.toList
  long : d.2.toNat < (bodyD d).size
  size : (bodyD d).size ≤ 100
  short : (natTextB d.1.2).size ≤ 61
theorem body_of {d : DI} (h : okD d = true) : ∃ n m, BodyD d n m := by
  have p := partsD h
  have hp := okS_parts p.ok
  have e : d.1.2 = limbs (nval d.1.2).toNat := natOk_limbs hp.1
  have hl := p.len
  have ed : (natTextB d.1.2).data.toList = Lib.decDigits (nval d.1.2).toNat := by
    rw [e, limbs_val, Int.toNat_natCast]
    exact natText_limbs _ (by rw [← e]; omega)
  have hs : (natTextB d.1.2).size ≤ 61 := by
    unfold natTextB
    rw [if_pos hp.1]
    have := natT_size d.1.2 (natOk_parts hp.1).1
    omega
  have hlist : (bodyD d).data.toList = List.replicate ((d.2 + 1).toNat - (natTextB d.1.2).size) 48 ++ Lib.decDigits (nval d.1.2).toNat := by
    unfold bodyD
    rw [pad_list, ed]
  have hsz : (bodyD d).size = (d.2 + 1).toNat - (natTextB d.1.2).size + (natTextB d.1.2).size := by
    unfold bodyD
    rw [← listB_len, pad_list, List.length_append, List.length_replicate, listB_len]
  have hlo := p.lo
  have hhi := p.hi
  refine ⟨(nval d.1.2).toNat, _, e, ed, hlist, ?_, by omega, by omega, hs⟩
  rw [hlist]
  intro c hc
  rcases List.mem_append.1 hc with hc | hc
  · rw [(List.mem_replicate.1 hc).2]; decide
  · exact (dig_dec _).1 c hc
theorem raw_dig {l : List UInt8} (h : DigL l) : rawL l = l := by
  refine List.filter_eq_self.2 fun c hc => ?_
  have := h c hc
  rw [Bool.and_eq_true, bne_iff_ne, bne_iff_ne]
  refine ⟨fun e => ?_, fun e => ?_⟩
  · subst e; exact absurd this.1 (by decide)
  · subst e; exact absurd this.1 (by decide)
theorem raw_app (a b : List UInt8) : rawL (a ++ b) = rawL a ++ rawL b := List.filter_append ..
theorem dig_take {l : List UInt8} (h : DigL l) (k : Nat) : DigL (l.take k) := fun c hc => h c (List.mem_of_mem_take hc)
theorem dig_drop {l : List UInt8} (h : DigL l) (k : Nat) : DigL (l.drop k) := fun c hc => h c (List.mem_of_mem_drop hc)
theorem raw_point {l : List UInt8} (h : DigL l) (k : Nat) : rawL (l.take k ++ 46 :: l.drop k) = l := by
  rw [raw_app, raw_dig (dig_take h k), show (46 :: l.drop k : List UInt8) = [46] ++ l.drop k from rfl, raw_app, raw_dig (dig_drop h k)]
  show l.take k ++ ([] ++ l.drop k) = l
  rw [List.nil_append, List.take_append_drop]
theorem strip_dec (n : Nat) : stripL (Lib.decDigits n) = Lib.decDigits n := by
  by_cases h : n < 10
  · rw [dec_small n h]; rfl
  · have hh := dec_head n (by omega)
    have hne := (dig_dec n).2
    cases hl : Lib.decDigits n with
    | nil => exact absurd hl hne
    | cons c r =>
      rw [hl] at hh
      cases r with
      | nil => rfl
      | cons e r =>
        have : ¬ c = 48 := hh
        show (if c = 48 then _ else _) = _
        rw [if_neg this]
theorem strip_zero (l : List UInt8) (h : l ≠ []) : stripL (48 :: l) = stripL l := by
  cases l with
  | nil => exact absurd rfl h
  | cons c r => rfl
theorem strip_pad (n m : Nat) : stripL (List.replicate m 48 ++ Lib.decDigits n) = Lib.decDigits n := by
  induction m with
  | zero => exact strip_dec n
  | succ m ih =>
    rw [List.replicate_succ, List.cons_append, strip_zero _ (fun e => (dig_dec n).2 (List.append_eq_nil_iff.1 e).2)]
    exact ih
theorem scale_dig {l : List UInt8} {a b : Nat} (hab : a ≤ b) (h : ∀ k, a ≤ k → k < b → l.getD k 0 ≠ 46) : scaleF l b = scaleF l a := by
  induction b with
  | zero => rw [show a = 0 by omega]
  | succ b ih =>
    rcases Nat.eq_or_lt_of_le hab with e | hlt
    · rw [e]
    · show (if l.getD b 0 = 46 then _ else _) = _
      rw [if_neg (h b (by omega) (by omega))]
      exact ih (by omega) (fun k h1 h2 => h k h1 (by omega))
theorem scale_hit {l : List UInt8} {k : Nat} (h : l.getD k 0 = 46) : scaleF l (k + 1) = (l.length : Int) - 1 - k := if_pos h
theorem getD_of {l : List UInt8} {k : Nat} {c : UInt8} (h : l[k]? = some c) : l.getD k 0 = c := by
  rw [List.getD_eq_getElem?_getD, h]; rfl
theorem getD_mem {l : List UInt8} {k : Nat} (h : k < l.length) : l.getD k 0 ∈ l := by
  rw [List.getD_eq_getElem?_getD, List.getElem?_eq_getElem h]; exact List.getElem_mem h
/-- in digits with a minus ahead, or none, no point stands -/
theorem scale_none {l : List UInt8} (h : ∀ c ∈ l, c ≠ 46) : scaleF l l.length = 0 :=
  scale_dig (a := 0) (Nat.zero_le _) (fun _ _ h2 => h _ (getD_mem h2))
theorem scale_one {a b : List UInt8} (h : ∀ c ∈ b, c ≠ 46) : scaleF (a ++ 46 :: b) (a ++ 46 :: b).length = b.length := by
  have hlen : (a ++ 46 :: b).length = a.length + 1 + b.length := by rw [List.length_append, List.length_cons]; omega
  have hit : (a ++ 46 :: b).getD a.length 0 = 46 := getD_of (by rw [List.getElem?_append_right (Nat.le_refl _), Nat.sub_self]; rfl)
  rw [scale_dig (a := a.length + 1) (by omega) (fun k h1 h2 => ?_), scale_hit hit, hlen]
  · omega
  · have hk : (a ++ 46 :: b).getD k 0 = b.getD (k - a.length - 1) 0 := by
      rw [List.getD_eq_getElem?_getD, List.getD_eq_getElem?_getD, List.getElem?_append_right (by omega), show k - a.length = (k - a.length - 1) + 1 by omega, List.getElem?_cons_succ]
      congr 2
    rw [hk]
    exact h _ (getD_mem (by omega))
theorem dig_no {l : List UInt8} (h : DigL l) : ∀ c ∈ l, c ≠ 46 := fun c hc e => by
  subst e
  exact absurd (h _ hc).1 (by decide)
theorem dig_no' {l : List UInt8} (h : DigL l) : ∀ c ∈ l, c ≠ 45 := fun c hc e => by
  subst e
  exact absurd (h _ hc).1 (by decide)
/-- the text of a right number as a list -/
theorem text_list {d : DI} (h : okD d = true) : (textD d).data.toList = (if d.1.1 = true then [45] else []) ++ (if 0 < d.2 then (bodyD d).data.toList.take ((bodyD d).size - d.2.toNat) ++ 46 :: (bodyD d).data.toList.drop ((bodyD d).size - d.2.toNat) else (bodyD d).data.toList) := by
  unfold textD
  rw [if_pos h]
  have e := point_list (bodyD d) d.2
  split
  · rw [ByteArray.data_append, Array.toList_append, e]
  · rw [e]; rfl
theorem text_size {d : DI} (h : okD d = true) : (textD d).size ≤ 102 := by
  obtain ⟨n, m, b⟩ := body_of h
  have e := text_list h
  have := b.size
  rw [← listB_len, e, List.length_append]
  have h1 : (if d.1.1 = true then [45] else ([] : List UInt8)).length ≤ 1 := by split <;> decide
  have h2 : (if 0 < d.2 then (bodyD d).data.toList.take ((bodyD d).size - d.2.toNat) ++ 46 :: (bodyD d).data.toList.drop ((bodyD d).size - d.2.toNat) else (bodyD d).data.toList).length ≤ 101 := by
    split
    · rw [List.length_append, List.length_cons, List.length_take, List.length_drop, listB_len]; omega
    · rw [listB_len]; omega
  omega
theorem textD_size (d : DI) : (textD d).size ≤ 102 := by
  by_cases h : okD d = true
  · exact text_size h
  · unfold textD
    rw [if_neg h]
    decide
/-- what is read out of a written number -/
theorem parse_text {d : DI} (h : okD d = true) : parseD (textD d) = d ∧ decOk (rawB (textD d)) = true := by
  obtain ⟨n, m, b⟩ := body_of h
  have p := partsD h
  have hp := okS_parts p.ok
  have hlo := p.lo
  have e := text_list h
  have hdig := b.dig
  have hlong := b.long
  have hraw : rawL (textD d).data.toList = (bodyD d).data.toList := by
    rw [e, raw_app]
    have h1 : rawL (if d.1.1 = true then [45] else []) = [] := by split <;> rfl
    rw [h1, List.nil_append]
    split
    · exact raw_point hdig _
    · exact raw_dig hdig
  have hst : (rawB (textD d)).data.toList = Lib.decDigits n := by
    show stripL (rawL (textD d).data.toList) = _
    rw [hraw, b.list]
    exact strip_pad n m
  have hnt : rawB (textD d) = natTextB d.1.2 := listB (by rw [hst, b.digits])
  have hdd : digitsB (rawB (textD d)) = true := by rw [digitsB_iff, hst]; exact dig_dec n
  have hsz : (rawB (textD d)).size ≤ 450 := by rw [hnt]; have := b.short; omega
  have hok : decOk (rawB (textD d)) = true := by
    rw [← read_text _ hdd hsz, hst, valL_dec, Int.toNat_natCast, hnt, b.mag]
  have hval : tnR (rawB (textD d)) = d.1.2 := by
    unfold tnR
    rw [if_pos hok, hst, valL_dec, Int.toNat_natCast]
    exact b.mag.symm
  have hscale : scaleB (textD d) = d.2 := by
    unfold scaleB
    rw [← listB_len, e]
    by_cases h0 : 0 < d.2
    · rw [if_pos h0, ← List.append_assoc, scale_one (dig_no (dig_drop hdig _)), List.length_drop, listB_len]
      omega
    · rw [if_neg h0, scale_none (fun c hc => ?_)]
      · omega
      · rcases List.mem_append.1 hc with hc | hc
        · split at hc
          · rw [List.mem_singleton.1 hc]; decide
          · cases hc
        · exact dig_no hdig c hc
  have hneg : decide ((textD d).data.toList.headD 0 = 45) = d.1.1 := by
    rw [e]
    cases hs : d.1.1 with
    | true => rfl
    | false =>
      rw [decide_eq_false_iff_not]
      show ¬ ([] ++ _ : List UInt8).headD 0 = 45
      rw [List.nil_append]
      intro h45
      have hne : (bodyD d).data.toList ≠ [] := fun e0 => by
        have h5 := listB_len (bodyD d)
        rw [e0] at h5
        simp at h5
        omega
      have hfirst : ∀ l : List UInt8, DigL l → l ≠ [] → ¬ l.headD 0 = 45 := fun l hl hn h4 => by
        cases l with
        | nil => exact hn rfl
        | cons c r => exact dig_no' hl c (List.mem_cons_self ..) h4
      split at h45
      · have hk : (bodyD d).data.toList.take ((bodyD d).size - d.2.toNat) ≠ [] := fun e0 => by
          have h5 := congrArg List.length e0
          rw [List.length_take, listB_len] at h5
          simp at h5
          omega
        cases ht : (bodyD d).data.toList.take ((bodyD d).size - d.2.toNat) with
        | nil => exact hk ht
        | cons c r =>
          rw [ht] at h45
          exact hfirst _ (dig_take hdig _) hk (by rw [ht]; exact h45)
      · exact hfirst _ hdig hne h45
  refine ⟨?_, hok⟩
  unfold parseD
  rw [hneg, hval, hscale]
/-- TextDec answers the number whose text it is -/
theorem trD_text {d : DI} (h : okD d = true) : trD (textD d) = (d, true) := by
  have p := parse_text h
  unfold trD readD
  rw [p.2, p.1, h, decide_eq_true rfl]
  rfl
theorem trD_yes {s : ByteArray} (h : (trD s).2 = true) : okD (trD s).1 = true ∧ textD (trD s).1 = s := by
  unfold trD at h ⊢
  split at h
  · rename_i hr
    rw [if_pos hr]
    unfold readD at hr
    rw [Bool.and_eq_true, Bool.and_eq_true, decide_eq_true_eq] at hr
    exact hr.2
  · exact absurd h (by decide)
theorem trD_iff (s : ByteArray) (d : DI) : trD s = (d, true) ↔ okD d = true ∧ textD d = s := by
  constructor
  · intro h
    have := trD_yes (s := s) (by rw [h])
    rw [h] at this
    exact this
  · intro ⟨h1, h2⟩
    rw [← h2]
    exact trD_text h1
theorem trD_no {s : ByteArray} (h : ∀ d, okD d = true → ¬ textD d = s) : trD s = (zeroD, false) := by
  unfold trD
  rw [if_neg]
  intro hr
  have : (trD s).2 = true := by unfold trD; rw [if_pos hr]
  have y := trD_yes this
  exact h _ y.1 y.2
theorem trD_sz (s : ByteArray) : szD (trD s).1 ≤ 1048576 := by
  by_cases h : (trD s).2 = true
  · have := (partsD (trD_yes h).1).len
    unfold szD szS szI
    omega
  · unfold trD at h ⊢
    split at h
    · exact absurd rfl h
    · rename_i hr
      rw [if_neg hr]
      exact zeroD_sz
end Go.Proofs.YtbpfabicampdkaaGreatDoor
