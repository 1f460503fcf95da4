/-
  Plain facts on fractions: a signed numerator, the limbs of a denominator.
-/
import Derived.Test.YtipbdpdmefcofaaDoorSignPlain
namespace Go.Proofs.YtipbdpdmefcofaaDoor
open Go.RowKit

/-- a fraction as data -/
abbrev QI : Type := SI × List Int
def zeroQ : QI := (zeroS, [])
/-- what RatOk answers -/
def okQ (q : QI) : Bool := okS q.1 && natOkB q.2 && decide (0 < q.2.length ∧ q.2.length ≤ 18 ∧ q.1.2.length ≤ 18 ∧ Nat.gcd (nval q.1.2).toNat (nval q.2).toNat = 1)
/-- a fraction in lowest terms, with its sign; false where it has too many limbs, or is by 0 -/
def lowQ (n : Bool) (a b : Nat) : QI × Bool :=
  if b ≠ 0 ∧ (limbs (a / Nat.gcd a b)).length ≤ 18 ∧ (limbs (b / Nat.gcd a b)).length ≤ 18 then ((mkS n (limbs (a / Nat.gcd a b)), limbs (b / Nat.gcd a b)), true) else (zeroQ, false)
def numQ (q : QI) : Int := valS q.1
def denQ (q : QI) : Nat := (nval q.2).toNat
theorem okQ_parts {q : QI} (h : okQ q = true) : okS q.1 = true ∧ natOkB q.2 = true ∧ 0 < q.2.length ∧ q.2.length ≤ 18 ∧ q.1.2.length ≤ 18 ∧ Nat.gcd (nval q.1.2).toNat (nval q.2).toNat = 1 := by
  unfold okQ at h
  rw [Bool.and_eq_true, Bool.and_eq_true, decide_eq_true_eq] at h
  exact ⟨h.1.1, h.1.2, h.2.1, h.2.2.1, h.2.2.2.1, h.2.2.2.2⟩
/-- what the functions answer -/
def makeQ (x y : SI) : QI × Bool := if okS x = true ∧ okS y = true then lowQ (x.1 != y.1) (nval x.2).toNat (nval y.2).toNat else (zeroQ, false)
def addQ (r s : QI) : QI × Bool := if okQ r = true ∧ okQ s = true then lowQ (decide (numQ r * denQ s + numQ s * denQ r < 0)) (numQ r * denQ s + numQ s * denQ r).natAbs (denQ r * denQ s) else (zeroQ, false)
def negQ (r : QI) : QI × Bool := if okQ r = true then ((negS r.1, r.2), true) else (zeroQ, false)
def mulQ (r s : QI) : QI × Bool := if okQ r = true ∧ okQ s = true then lowQ (r.1.1 != s.1.1) ((nval r.1.2).toNat * (nval s.1.2).toNat) (denQ r * denQ s) else (zeroQ, false)
def divQ (r s : QI) : QI × Bool := if okQ r = true ∧ okQ s = true then lowQ (r.1.1 != s.1.1) ((nval r.1.2).toNat * denQ s) (denQ r * (nval s.1.2).toNat) else (zeroQ, false)
def subQ (r s : QI) : QI × Bool := if (negQ s).2 = true then addQ r (negQ s).1 else (zeroQ, false)
def cmpQ (r s : QI) : Int := if okQ r = true ∧ okQ s = true then cmpI (numQ r * denQ s) (numQ s * denQ r) else 0
def oneQ : QI := (zeroS, [1])
theorem denQ_pos {q : QI} (h : okQ q = true) : 0 < denQ q := by
  have hp := okQ_parts h
  have h1 := ok_ge hp.2.1 hp.2.2.1
  have h2 := bp_pos (q.2.length - 1)
  unfold denQ
  omega
theorem oneQ_ok : okQ oneQ = true := by
  have e : nval [1] = 1 := rfl
  unfold okQ oneQ
  rw [e]
  rfl
theorem limbs_18 {n : Bool} {m : Nat} (h : (limbs m).length ≤ 18) : mkS n (limbs m) = (n && decide (0 < (limbs m).length), limbs m) := by
  unfold mkS capL
  rw [if_neg (by omega)]
/-- what comes out in lowest terms is right -/
theorem lowQ_ok (n : Bool) (a b : Nat) (h : (lowQ n a b).2 = true) : okQ (lowQ n a b).1 = true := by
  unfold lowQ at h ⊢
  split
  · rename_i hc
    obtain ⟨hb, h1, h2⟩ := hc
    have hg : 0 < Nat.gcd a b := Nat.gcd_pos_of_pos_right _ (by omega)
    have hbq : b / Nat.gcd a b ≠ 0 := by
      have := Nat.div_pos (Nat.le_of_dvd (by omega) (Nat.gcd_dvd_right a b)) hg
      omega
    have hlb : 0 < (limbs (b / Nat.gcd a b)).length := by
      rcases Nat.eq_zero_or_pos (limbs (b / Nat.gcd a b)).length with h0 | h0
      · exact absurd ((limbs_zero_iff _).1 h0) hbq
      · exact h0
    have hs : okS (mkS n (limbs (a / Nat.gcd a b))) = true := by rw [mkS_limbs]; exact ofZ_ok _
    have e2 : (mkS n (limbs (a / Nat.gcd a b))).2 = limbs (a / Nat.gcd a b) := by rw [limbs_18 h1]
    unfold okQ
    simp only
    rw [hs, limbs_okL _ (by omega), e2, limbs_val, limbs_val, Int.toNat_natCast, Int.toNat_natCast]
    simp only [Bool.true_and, decide_eq_true_eq]
    exact ⟨hlb, h2, h1, Nat.gcd_div_gcd_div_gcd_of_pos_right (by omega)⟩
  · rename_i hc
    rw [if_neg hc] at h
    cases h
end Go.Proofs.YtipbdpdmefcofaaDoor
