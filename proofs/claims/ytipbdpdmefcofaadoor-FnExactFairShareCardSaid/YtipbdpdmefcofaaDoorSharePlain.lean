/-
  Chapter 13 in plain words: weights, fair shares, what rounding down leaves.
-/
import Derived.Test.YtipbdpdmefcofaaDoorShareNum
import Derived.Test.YtipbdpdmefcofaaDoorShareWt
import Derived.Test.YtipbdpdmefcofaaDoorRestPlain
import Derived.Test.YtipbdpdmefcofaaDoorRatImplPlain
namespace Go.Proofs.YtipbdpdmefcofaaDoor
open Go.RowKit

/-- what FairShare answers -/
def fairR (x : SI) (w : List Int) (i : Int) : QI × Bool :=
  if okW w = true ∧ (0 ≤ i ∧ i < w.length) ∧ okS x = true then lowQ x.1 ((nval x.2).toNat * (natW w)[i.toNat]!) (natW w).sum else (zeroQ, false)
theorem lowQ_scale (n : Bool) {g : Nat} (a b : Nat) (hg : 0 < g) : lowQ n (g * a) (g * b) = lowQ n a b := by
  unfold lowQ
  rw [Nat.gcd_mul_left, Nat.mul_div_mul_left _ _ hg, Nat.mul_div_mul_left _ _ hg]
  by_cases hb : b = 0
  · subst hb; rfl
  · have : g * b ≠ 0 := by rw [Nat.mul_ne_zero_iff]; omega
    simp [hb, this]
theorem lowQ_none (n : Bool) {T : Nat} (h : 0 < T) : lowQ n 0 T = (oneQ, true) := by
  have e := lowQ_scale n 0 1 h
  rw [Nat.mul_zero, Nat.mul_one] at e
  have h0 : limbs 0 = [] := (natOk_limbs (xs := []) rfl).symm
  have h1 : limbs 1 = [1] := (natOk_limbs (xs := [1]) rfl).symm
  rw [e]
  unfold lowQ
  rw [Nat.gcd_one_right, Nat.zero_div, Nat.div_one, h0, h1, if_pos ⟨by decide, by decide, by decide⟩]
  cases n <;> rfl
theorem bp18_ge : (1000000000000000000 : Int) ≤ bp 18 := by have : bp 2 ≤ bp 18 := bp_mono (by omega); have e : bp 2 = 1000000000000000000 := rfl; omega
/-- the parts of a fraction in lowest terms -/
theorem lowQ_parts {n : Bool} {a b : Nat} (h : (lowQ n a b).2 = true) : b ≠ 0 ∧ okQ (lowQ n a b).1 = true ∧ (lowQ n a b).1.1.1 = (n && decide (a ≠ 0)) ∧ topN (lowQ n a b).1 = a / Nat.gcd a b ∧ denQ (lowQ n a b).1 = b / Nat.gcd a b := by
  have ok := lowQ_ok n a b h
  unfold lowQ at h ok ⊢
  split
  · rename_i hc
    rw [if_pos hc] at ok
    obtain ⟨hb, h1, h2⟩ := hc
    have hg : 0 < Nat.gcd a b := Nat.gcd_pos_of_pos_right _ (by omega)
    refine ⟨hb, ok, ?_, ?_, ?_⟩
    · dsimp only
      rw [limbs_18 h1]
      have e : (0 < (limbs (a / Nat.gcd a b)).length) ↔ a ≠ 0 := by
        have := limbs_zero_iff (a / Nat.gcd a b)
        have h3 : a / Nat.gcd a b = 0 ↔ a = 0 := by
          rw [Nat.div_eq_zero_iff]
          constructor
          · intro hh
            rcases hh with hh | hh
            · omega
            · by_cases ha : a = 0
              · exact ha
              · have := Nat.gcd_le_left (m := a) b (by omega)
                omega
          · intro hh; subst hh; exact .inr (by omega)
        omega
      dsimp only
      rw [decide_eq_decide.2 e]
    · unfold topN
      dsimp only
      rw [limbs_18 h1]
      dsimp only
      rw [limbs_val, Int.toNat_natCast]
    · unfold denQ
      dsimp only
      rw [limbs_val, Int.toNat_natCast]
  · rename_i hc
    rw [if_neg hc] at h
    cases h
theorem limbs_monoN {m n : Nat} (h : m ≤ n) : (limbs m).length ≤ (limbs n).length := by
  have := limbs_mono (m := (m : Int)) (n := (n : Int)) (by omega) (by omega)
  rw [Int.toNat_natCast, Int.toNat_natCast] at this
  exact this
/-- a part of more limbs than there may be stays so, times a whole number -/
theorem lowQ_grown {n : Bool} {a T k : Nat} (hT : 0 < T) (hT2 : T ≤ 30000000000) (hk : 0 < k) (h : (lowQ n a T).2 = false) : lowQ n (a * k) T = (zeroQ, false) := by
  have hl : ∀ g, (limbs (T / g)).length ≤ 18 := fun g => limbs_length_le _ 18 (by have := bp18_ge; have := Nat.div_le_self T g; omega)
  have h1 : ¬ (limbs (a / Nat.gcd a T)).length ≤ 18 := by
    intro hc
    unfold lowQ at h
    rw [if_pos ⟨by omega, hc, hl _⟩] at h
    cases h
  have hg : 0 < Nat.gcd a T := Nat.gcd_pos_of_pos_right _ hT
  have hg2 : 0 < Nat.gcd (a * k) T := Nat.gcd_pos_of_pos_right _ hT
  have hd : Nat.gcd (a * k) T ∣ Nat.gcd a T * k := by
    have h3 : Nat.gcd (a * k) T ∣ a * k := Nat.gcd_dvd_left _ _
    have h4 : Nat.gcd (a * k) T ∣ T * k := Nat.dvd_trans (Nat.gcd_dvd_right _ _) (Nat.dvd_mul_right _ _)
    have h5 := Nat.dvd_gcd h3 h4
    rwa [Nat.gcd_mul_right] at h5
  have hle : a / Nat.gcd a T ≤ a * k / Nat.gcd (a * k) T := by
    have e : a / Nat.gcd a T = a * k / (Nat.gcd a T * k) := (Nat.mul_div_mul_right _ _ hk).symm
    rw [e]
    exact Nat.div_le_div_left (Nat.le_of_dvd (Nat.mul_pos hg hk) hd) hg2
  have h2 := limbs_monoN hle
  unfold lowQ
  rw [if_neg (fun hc => h1 (Nat.le_trans h2 hc.2.1))]
/-- impl divides by the whole before it multiplies -/
theorem fair_mul {x : SI} {T k : Nat} (okx : okS x = true) (hT : 0 < T) (hT2 : T ≤ 30000000000) (hk : 0 < k) (hk2 : k ≤ 1000000000) : mulQ (makeQ x (ofZ (T : Int))).1 (makeQ (ofZ (k : Int)) (ofZ 1)).1 = lowQ x.1 ((nval x.2).toNat * k) T := by
  have b50 : (30000000000 : Int) < bp 50 := by have : bp 18 ≤ bp 50 := bp_mono (by omega); have := bp18_ge; omega
  have eT : ofZ (T : Int) = (false, limbs T) := by
    unfold ofZ
    rw [show ((T : Int)).natAbs = T by omega, if_pos (limbs_length_le _ 50 (by omega)), decide_eq_false (by omega)]
  have e1 : makeQ x (ofZ (T : Int)) = lowQ x.1 (nval x.2).toNat T := by
    unfold makeQ
    rw [if_pos ⟨okx, ofZ_ok _⟩, eT]
    dsimp only
    rw [limbs_val, Int.toNat_natCast, Bool.bne_false]
  have e2 : makeQ (ofZ (k : Int)) (ofZ 1) = lowQ false k 1 := by
    have ek : ofZ (k : Int) = (false, limbs k) := by
      unfold ofZ
      rw [show ((k : Int)).natAbs = k by omega, if_pos (limbs_length_le _ 50 (by omega)), decide_eq_false (by omega)]
    have eo : ofZ 1 = (false, limbs 1) := by
      unfold ofZ
      rw [show ((1 : Int)).natAbs = 1 by omega, if_pos (limbs_length_le _ 50 (by have := bp50; omega)), decide_eq_false (by omega)]
    unfold makeQ
    rw [if_pos ⟨ofZ_ok _, ofZ_ok _⟩, ek, eo]
    dsimp only
    rw [limbs_val, limbs_val, Int.toNat_natCast, Int.toNat_natCast]
    rfl
  have l2 := low_is false k 1 (by omega) (by have := bp18_ge; omega) (by have := bp18_ge; omega)
  have p2 := lowQ_parts l2.1
  rw [Nat.gcd_one_right, Nat.div_one, Nat.div_one] at p2
  rw [e1, e2]
  generalize (nval x.2).toNat = X
  cases hr : (lowQ x.1 X T).2 with
  | false =>
    have hz : (lowQ x.1 X T).1 = zeroQ := by
      unfold lowQ at hr ⊢
      split
      · rename_i hc
        rw [if_pos hc] at hr
        cases hr
      · rfl
    rw [hz, lowQ_grown hT hT2 hk hr]
    unfold mulQ
    rw [if_neg (fun h => by have := h.1; rw [show okQ zeroQ = false from rfl] at this; cases this)]
  | true =>
    have p1 := lowQ_parts hr
    have hg : 0 < Nat.gcd X T := Nat.gcd_pos_of_pos_right _ hT
    have e3 : Nat.gcd X T * (X / Nat.gcd X T * k) = X * k := by rw [← Nat.mul_assoc, Nat.mul_div_cancel' (Nat.gcd_dvd_left X T)]
    have e4 : Nat.gcd X T * (T / Nat.gcd X T * 1) = T := by rw [Nat.mul_one, Nat.mul_div_cancel' (Nat.gcd_dvd_right X T)]
    unfold mulQ
    rw [if_pos ⟨p1.2.1, p2.2.1⟩, p1.2.2.1, p2.2.2.1, p1.2.2.2.2, p2.2.2.2.2]
    have e5 : (nval (lowQ x.1 X T).1.1.2).toNat = X / Nat.gcd X T := p1.2.2.2.1
    have e6 : (nval (lowQ false k 1).1.1.2).toNat = k := p2.2.2.2.1
    rw [e5, e6, Bool.false_and, Bool.bne_false]
    rw [← lowQ_scale (x.1 && decide (X ≠ 0)) (X / Nat.gcd X T * k) (T / Nat.gcd X T * 1) hg, e3, e4]
    refine lowQ_sign fun ha => ?_
    have : X ≠ 0 := fun h => ha (by rw [h, Nat.zero_mul])
    rw [decide_eq_true this, Bool.and_true]
theorem fairR_sz (x : SI) (w : List Int) (i : Int) : szQ (fairR x w i).1 ≤ 1048576 := by unfold fairR; split; exact lowQ_sz _ _ _; decide
theorem fairR_ok {x : SI} {w : List Int} {i : Int} (h : (fairR x w i).2 = true) : okQ (fairR x w i).1 = true := by
  unfold fairR at h ⊢
  split
  · rename_i hc; rw [if_pos hc] at h; exact lowQ_ok _ _ _ h
  · rename_i hc; rw [if_neg hc] at h; cases h
end Go.Proofs.YtipbdpdmefcofaaDoor
