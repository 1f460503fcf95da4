/-
  Plain facts on signed numbers: a sign and limbs.
-/
import Derived.Test.YtofehcpapdlcnaaDivPlain
namespace Go.Proofs.Ytofehcpapdlcnaa
open Go.RowKit

/-- a signed number as data: its sign, its limbs -/
abbrev SI : Type := Bool × List Int
def zeroS : SI := (false, [])
/-- what IntOk answers -/
def okS (x : SI) : Bool := natOkB x.2 && (!x.1 || decide (0 < x.2.length))
/-- the number -/
def valS (x : SI) : Int := if x.1 = true then -(nval x.2) else nval x.2
/-- the signed number of an integer; zero where it wants more limbs than there may be -/
def ofZ (z : Int) : SI := if (limbs z.natAbs).length ≤ 50 then (decide (z < 0), limbs z.natAbs) else zeroS
theorem okS_parts {x : SI} (h : okS x = true) : natOkB x.2 = true ∧ (x.1 = true → 0 < x.2.length) := by
  unfold okS at h
  rw [Bool.and_eq_true] at h
  refine ⟨h.1, fun hn => ?_⟩
  rw [hn] at h
  simpa using h.2
theorem natOk_empty : natOkB [] = true := rfl
theorem zeroS_ok : okS zeroS = true := rfl
theorem zeroS_val : valS zeroS = 0 := rfl
theorem okS_pos {x : SI} (h : okS x = true) (hn : 0 < x.2.length) : 0 < nval x.2 := by
  have h1 := ok_ge (okS_parts h).1 hn
  have h2 := bp_pos (x.2.length - 1)
  omega
theorem nval_ok {xs : List Int} (h : natOkB xs = true) : 0 ≤ nval xs := nval_nonneg xs (natOk_parts h).1
theorem okS_sign {x : SI} (h : okS x = true) : x.1 = decide (valS x < 0) := by
  have hp := okS_parts h
  have h0 := nval_ok hp.1
  unfold valS
  cases hx : x.1 with
  | false => rw [if_neg (by decide)]; exact (decide_eq_false (by omega)).symm
  | true =>
    have := okS_pos h (hp.2 hx)
    rw [if_pos rfl]
    exact (decide_eq_true (by omega)).symm
theorem valS_abs (x : SI) (h : natOkB x.2 = true) : (valS x).natAbs = (nval x.2).toNat := by
  have h0 := nval_ok h
  unfold valS
  split <;> omega
/-- a right one is that of its number -/
theorem okS_ofZ {x : SI} (h : okS x = true) : ofZ (valS x) = x := by
  have hp := okS_parts h
  have hl := natOk_limbs hp.1
  have h50 := (natOk_parts hp.1).2.1
  unfold ofZ
  rw [valS_abs x hp.1, ← hl, if_pos h50, ← okS_sign h]
theorem limbs_zero_iff (n : Nat) : (limbs n).length = 0 ↔ n = 0 := by
  constructor
  · intro h
    have := limbs_val n
    rw [List.eq_nil_of_length_eq_zero h] at this
    have h2 : nval [] = 0 := rfl
    omega
  · rintro rfl; rw [limbs, dif_pos rfl]; rfl
theorem limbs_okL (n : Nat) (h : (limbs n).length ≤ 50) : natOkB (limbs n) = true := by
  unfold natOkB
  rw [Bool.and_eq_true, Bool.and_eq_true, all_dig]
  exact ⟨limbs_digN n, decide_eq_true h, decide_eq_true (limbs_lastN n)⟩
theorem ofZ_ok (z : Int) : okS (ofZ z) = true := by
  unfold ofZ
  split
  · rename_i h
    unfold okS
    rw [limbs_okL _ h, Bool.true_and]
    by_cases hz : z < 0
    · have : 0 < (limbs z.natAbs).length := by
        rcases Nat.eq_zero_or_pos (limbs z.natAbs).length with h0 | h0
        · rw [limbs_zero_iff] at h0; omega
        · exact h0
      simp [this]
    · simp [hz]
  · exact zeroS_ok
theorem ofZ_val {z : Int} (h : (limbs z.natAbs).length ≤ 50) : valS (ofZ z) = z := by
  unfold ofZ
  rw [if_pos h]
  unfold valS
  by_cases hz : z < 0
  · rw [if_pos (by simpa using hz), limbs_val]; omega
  · rw [if_neg (by simpa using hz), limbs_val]; omega
theorem ofZ_big {z : Int} (h : ¬ (limbs z.natAbs).length ≤ 50) : ofZ z = zeroS := by unfold ofZ; rw [if_neg h]
theorem ofZ_zero : ofZ 0 = zeroS := by unfold ofZ; rw [show (0 : Int).natAbs = 0 from rfl, show limbs 0 = [] by rw [limbs, dif_pos rfl], if_pos (by decide)]; rfl
theorem ofZ_len (z : Int) : (ofZ z).2.length ≤ 50 := (natOk_parts (okS_parts (ofZ_ok z)).1).2.1
/-- what the functions answer -/
def negS (x : SI) : SI := if okS x = true then ofZ (-(valS x)) else zeroS
def absS (x : SI) : SI := if okS x = true then ofZ (valS x).natAbs else zeroS
def addS (x y : SI) : SI := if okS x = true ∧ okS y = true then ofZ (valS x + valS y) else zeroS
def subS (x y : SI) : SI := if okS x = true ∧ okS y = true then ofZ (valS x - valS y) else zeroS
def mulS (x y : SI) : SI := if okS x = true ∧ okS y = true then ofZ (valS x * valS y) else zeroS
def cmpS (x y : SI) : Int := if okS x = true ∧ okS y = true then cmpI (valS x) (valS y) else 0
def sumS (l : List SI) : SI := if l.all okS = true then l.foldl addS zeroS else zeroS
theorem negS_val {x : SI} (h : okS x = true) : valS (negS x) = -(valS x) := by
  unfold negS
  rw [if_pos h]
  have hp := okS_parts h
  have e := valS_abs x hp.1
  refine ofZ_val ?_
  rw [Int.natAbs_neg, e, ← natOk_limbs hp.1]
  exact (natOk_parts hp.1).2.1
theorem negS_ok (x : SI) : okS (negS x) = true := by unfold negS; split; exact ofZ_ok _; exact zeroS_ok
/-- a sign and limbs laid together, as the document's value: the sign falls away where nothing is left -/
def mkS (n : Bool) (xs : List Int) : SI := (n && decide (0 < (capL xs).length), capL xs)
theorem mkS_limbs (n : Bool) (m : Nat) : mkS n (limbs m) = ofZ (if n = true then -(m : Int) else m) := by
  have e : (if n = true then -(m : Int) else (m : Int)).natAbs = m := by split <;> omega
  unfold mkS ofZ
  rw [e]
  unfold capL
  by_cases h : 50 < (limbs m).length
  · rw [if_pos h, if_neg (by omega)]
    cases n <;> rfl
  · rw [if_neg h, if_pos (by omega)]
    have hz := limbs_zero_iff m
    cases n with
    | false => simp
    | true =>
      simp only [Bool.true_and, if_true]
      congr 1
      by_cases h0 : m = 0
      · have := hz.2 h0
        rw [decide_eq_false (by omega), decide_eq_false (by omega)]
      · have : 0 < (limbs m).length := by
          rcases Nat.eq_zero_or_pos (limbs m).length with h1 | h1
          · exact absurd (hz.1 h1) h0
          · exact h1
        rw [decide_eq_true this, decide_eq_true (by omega)]
end Go.Proofs.Ytofehcpapdlcnaa
