/-
  Plain facts of chapter 7: rounded fractions.
-/
import Derived.Test.YtipbdpdmefcofaaDoorRatPlain2
import Derived.Test.YtipbdpdmefcofaaDoorModePlain
namespace Go.Proofs.YtipbdpdmefcofaaDoor
open Go.RowKit

/-- is the size rounded up: by the sign, the whole part, what is left over, the denominator and the mode -/
def awayB (neg : Bool) (Q R D : Nat) (m : Int) : Bool :=
  if m = 0 then false else if m = 1 then true else if m = 2 then neg else if m = 3 then !neg else if m = 4 then decide (D < 2 * R) else if m = 5 then decide (D ≤ 2 * R)
  else decide (D < 2 * R) || (decide (2 * R = D) && decide (Q % 2 = 1))
def roundN (neg : Bool) (A D : Nat) (m : Int) : Nat := A / D + if A % D ≠ 0 ∧ awayB neg (A / D) (A % D) D m = true then 1 else 0
/-- a right fraction, rounded -/
def roundS (r : QI) (m : Int) : SI := mkS r.1.1 (limbs (roundN r.1.1 (topN r) (denQ r) m))
/-- what RatRound answers -/
def roundR (r : QI) (m : Int) : SI × Bool := if okQ r = true ∧ modeB m = true then (roundS r m, true) else (zeroS, false)
def wholeB (r : QI) : Bool := okQ r && decide (denQ r = 1)
def halfB (r : QI) : Bool := okQ r && decide (denQ r = 2)
/-- what RatRest answers: the fraction of the rounded number, the remainder -/
def restB (r : QI) (m : Int) : Bool := (roundR r m).2 && (makeQ (roundR r m).1 (ofZ 1)).2 && (subQ r (makeQ (roundR r m).1 (ofZ 1)).1).2
def restS (r : QI) (m : Int) : SI := if restB r m = true then (roundR r m).1 else zeroS
def restQ (r : QI) (m : Int) : QI := if restB r m = true then (subQ r (makeQ (roundR r m).1 (ofZ 1)).1).1 else zeroQ
/-- what RoundTo answers -/
def stepB (x : SI) (n m : Int) : Bool := okS x && decide (x.2.length ≤ 18) && decide (1 ≤ n ∧ n ≤ 1000000) && modeB m
def stepS (x : SI) (n m : Int) : SI := if stepB x n m = true then mulS (roundS (makeQ x (ofZ n)).1 m) (ofZ n) else zeroS
theorem roundN_le (neg : Bool) (A D : Nat) (m : Int) : roundN neg A D m ≤ A / D + 1 := by unfold roundN; split <;> omega
theorem roundN_lt {r : QI} (h : Parts r) (m : Int) : (roundN r.1.1 (topN r) (denQ r) m : Int) ≤ bp 18 := by
  have h1 := roundN_le r.1.1 (topN r) (denQ r) m
  have h2 : topN r / denQ r ≤ topN r := Nat.div_le_self ..
  have h3 := h.nlt
  omega
theorem bp_step (k : Nat) : bp k < bp (k + 1) := by
  have p := bp_pos k
  have e : bp (k + 1) = 1000000000 * bp k := rfl
  omega
theorem round_len {r : QI} (h : Parts r) (m : Int) : (limbs (roundN r.1.1 (topN r) (denQ r) m)).length ≤ 19 := limbs_length_le _ 19 (by have := roundN_lt h m; have h2 : bp 18 < bp 19 := bp_step 18; omega)
theorem roundS_ok (r : QI) (m : Int) : okS (roundS r m) = true := by unfold roundS; rw [mkS_limbs]; exact ofZ_ok _
theorem roundS_len (r : QI) (m : Int) : (roundS r m).2.length ≤ 50 := by unfold roundS; rw [mkS_limbs]; exact ofZ_len _
theorem roundR_sz (r : QI) (m : Int) : szS (roundR r m).1 ≤ 1048576 := by
  unfold roundR
  split
  · have := roundS_len r m; unfold szS szI; simp only; omega
  · decide
/-- twice the rest, against the denominator -/
theorem twice_cmp (R D : Nat) : (0 < cmpI ((R : Int) + R + 0) D ↔ D < 2 * R) ∧ (0 ≤ cmpI ((R : Int) + R + 0) D ↔ D ≤ 2 * R) ∧ (cmpI ((R : Int) + R + 0) D = 0 ↔ 2 * R = D) := by
  unfold cmpI
  split
  · omega
  · split <;> omega
theorem lastD_any {l : List Int} (h : l ≠ []) (a b : Int) : l.getLastD a = l.getLastD b := by
  cases l with
  | nil => exact absurd rfl h
  | cons x r => rfl
theorem last_tail {x : Int} {r : List Int} (h : (x :: r).getLastD 1 ≠ 0) : r.getLastD 1 ≠ 0 := by
  by_cases hr : r = []
  · subst hr; decide
  · rw [List.getLastD_cons, lastD_any hr x 1] at h; exact h
theorem last_head {x : Int} (h : [x].getLastD 1 ≠ 0) : x ≠ 0 := h
theorem last_cons {s : Int} {r : List Int} (h : r.getLastD 1 ≠ 0) (h0 : r = [] → s ≠ 0) : (s :: r).getLastD 1 ≠ 0 := by
  by_cases hr : r = []
  · subst hr; exact h0 rfl
  · rw [List.getLastD_cons, lastD_any hr s 1]; exact h
theorem addL_nil {a b : List Int} {c : Int} (h : addL a b c = []) : a = [] ∧ b = [] ∧ ¬ 0 < c := by
  cases a with
  | nil =>
    cases b with
    | nil =>
      refine ⟨rfl, rfl, fun hc => ?_⟩
      simp only [addL, if_pos hc] at h
      cases h
    | cons y r => simp only [addL] at h; cases h
  | cons x r =>
    cases b with
    | nil => simp only [addL] at h; cases h
    | cons y q => simp only [addL] at h; cases h
/-- a sum of trimmed limbs is trimmed -/
theorem addL_last (a b : List Int) (c : Int) (ha : DigN a) (hb : DigN b) (h0 : 0 ≤ c) (h1 : c ≤ 1) (la : a.getLastD 1 ≠ 0) (lb : b.getLastD 1 ≠ 0) : (addL a b c).getLastD 1 ≠ 0 := by
  induction a, b, c using addL.induct with
  | case1 c hc => simp only [addL, if_pos hc]; show c ≠ 0; omega
  | case2 c hc => simp only [addL, if_neg hc]; decide
  | case3 c x a ih =>
    have hx := ha.head
    simp only [addL]
    refine last_cons (ih ha.tail hb (by omega) (by omega) (last_tail la) lb) fun e => ?_
    obtain ⟨rfl, _, hc⟩ := addL_nil e
    have := last_head la
    omega
  | case4 c y b ih =>
    have hy := hb.head
    simp only [addL]
    refine last_cons (ih ha hb.tail (by omega) (by omega) la (last_tail lb)) fun e => ?_
    obtain ⟨_, rfl, hc⟩ := addL_nil e
    have := last_head lb
    omega
  | case5 c x a y b ih =>
    have hx := ha.head
    have hy := hb.head
    simp only [addL]
    refine last_cons (ih ha.tail hb.tail (by omega) (by omega) (last_tail la) (last_tail lb)) fun e => ?_
    obtain ⟨rfl, rfl, hc⟩ := addL_nil e
    have := last_head la
    omega
end Go.Proofs.YtipbdpdmefcofaaDoor
