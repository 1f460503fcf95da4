/-
  Plain facts on natural numbers as lists of limbs below 1000000000, the least first.
-/
import Derived.Test.YtofehcpapdlcnaaCore
namespace Go.Proofs.Ytofehcpapdlcnaa
open Go.RowKit

/-- the number that limbs stand for -/
def nval : List Int → Int
  | [] => 0
  | d :: r => d + 1000000000 * nval r
/-- every limb is in range -/
def DigN (xs : List Int) : Prop := ∀ d ∈ xs, 0 ≤ d ∧ d ≤ 999999999
/-- without zeros at its end -/
def trimL : List Int → List Int
  | [] => []
  | d :: r => if trimL r = [] ∧ d = 0 then [] else d :: trimL r
/-- the limbs of a number -/
def limbs (n : Nat) : List Int := if h : n = 0 then [] else ((n % 1000000000 : Nat) : Int) :: limbs (n / 1000000000)
termination_by n
decreasing_by omega
/-- what NatOk asks -/
def digB (d : Int) : Bool := decide (0 ≤ d ∧ d ≤ 999999999)
def natOkB (xs : List Int) : Bool := xs.all digB && (decide (xs.length ≤ 50) && decide (xs.getLastD 1 ≠ 0))
theorem all_dig (xs : List Int) : xs.all digB = true ↔ DigN xs := by
  rw [List.all_eq_true]
  constructor
  · intro h d hd
    exact of_decide_eq_true (h d hd)
  · intro h d hd
    exact decide_eq_true (h d hd)

theorem DigN.tail {d : Int} {r : List Int} (h : DigN (d :: r)) : DigN r := fun x hx => h x (by simp [hx])
theorem DigN.head {d : Int} {r : List Int} (h : DigN (d :: r)) : 0 ≤ d ∧ d ≤ 999999999 := h d (by simp)
theorem DigN.cons {d : Int} {r : List Int} (h0 : 0 ≤ d) (h1 : d ≤ 999999999) (h : DigN r) : DigN (d :: r) := by
  intro x hx
  rcases List.mem_cons.1 hx with rfl | hx
  · exact ⟨h0, h1⟩
  · exact h x hx
theorem DigN.drop {xs : List Int} (h : DigN xs) (k : Nat) : DigN (xs.drop k) := fun x hx => h x (List.mem_of_mem_drop hx)
theorem DigN.take {xs : List Int} (h : DigN xs) (k : Nat) : DigN (xs.take k) := fun x hx => h x (List.mem_of_mem_take hx)
theorem DigN.at_ {xs : List Int} (h : DigN xs) (k : Nat) (hk : k < xs.length) : 0 ≤ xs[k] ∧ xs[k] ≤ 999999999 := h _ (List.getElem_mem hk)
theorem nval_nonneg (xs : List Int) (h : DigN xs) : 0 ≤ nval xs := by
  induction xs with
  | nil => exact Int.le_refl _
  | cons d r ih => have := ih h.tail; have := h.head; unfold nval; omega
theorem nval_zero (xs : List Int) (h : DigN xs) : nval xs = 0 ↔ trimL xs = [] := by
  induction xs with
  | nil => simp [nval, trimL]
  | cons d r ih =>
    have h1 := ih h.tail
    have h2 := h.head
    have h3 := nval_nonneg r h.tail
    unfold nval trimL
    constructor
    · intro e
      rw [if_pos ⟨h1.1 (by omega), by omega⟩]
    · intro e
      split at e
      · rename_i hc
        have := h1.2 hc.1
        omega
      · cases e
/-- limbs in range, without zeros at the end, are those of their number -/
theorem trim_limbs (xs : List Int) (h : DigN xs) : trimL xs = limbs (nval xs).toNat := by
  induction xs with
  | nil => rw [limbs]; simp [trimL, nval]
  | cons d r ih =>
    have h1 := ih h.tail
    have h2 := h.head
    have h3 := nval_nonneg r h.tail
    have hz := nval_zero r h.tail
    unfold trimL
    by_cases hc : trimL r = [] ∧ d = 0
    · rw [if_pos hc]
      have : nval r = 0 := hz.2 hc.1
      rw [limbs, dif_pos (by unfold nval; omega)]
    · rw [if_neg hc]
      have hne : ¬ (nval (d :: r)).toNat = 0 := by
        unfold nval
        intro e
        exact hc ⟨hz.1 (by omega), by omega⟩
      rw [limbs, dif_neg hne, h1, show nval (d :: r) = d + 1000000000 * nval r from rfl]
      rw [show (d + 1000000000 * nval r).toNat / 1000000000 = (nval r).toNat from by omega, show (((d + 1000000000 * nval r).toNat % 1000000000 : Nat) : Int) = d from by omega]
theorem trim_last (xs : List Int) (h : xs.getLastD 1 ≠ 0) : trimL xs = xs := by
  induction xs with
  | nil => rfl
  | cons d r ih =>
    unfold trimL
    cases r with
    | nil => have : d ≠ 0 := by simpa using h
             rw [if_neg (fun e => this e.2)]
             rfl
    | cons e r' =>
      have h1 := ih (by simpa using h)
      rw [h1, if_neg (fun e => by cases e.1)]
theorem natOk_parts {xs : List Int} (h : natOkB xs = true) : DigN xs ∧ xs.length ≤ 50 ∧ xs.getLastD 1 ≠ 0 := by
  unfold natOkB at h
  rw [Bool.and_eq_true, Bool.and_eq_true, decide_eq_true_eq, decide_eq_true_eq, all_dig] at h
  exact h
theorem natOk_limbs {xs : List Int} (h : natOkB xs = true) : xs = limbs (nval xs).toNat := by
  obtain ⟨h1, _, h3⟩ := natOk_parts h
  rw [← trim_limbs xs h1, trim_last xs h3]
theorem nval_inj {xs ys : List Int} (h : natOkB xs = true) (k : natOkB ys = true) (e : nval xs = nval ys) : xs = ys := by
  rw [natOk_limbs h, natOk_limbs k, e]

theorem nval_drop (xs : List Int) (k : Nat) (h : k < xs.length) : nval (xs.drop k) = xs[k] + 1000000000 * nval (xs.drop (k + 1)) := by
  rw [List.drop_eq_getElem_cons h]
  rfl
/-- a beginning behind which all is zero -/
theorem trim_prefix (xs : List Int) (k : Nat) (hk : k ≤ xs.length) (hz : ∀ j (h : j < xs.length), k ≤ j → xs[j] = 0) (hl : ∀ h : k - 1 < xs.length, 0 < k → xs[k - 1] ≠ 0) : trimL xs = xs.take k := by
  induction xs generalizing k with
  | nil => simp [trimL]
  | cons d r ih =>
    unfold trimL
    cases k with
    | zero =>
      have h0 : d = 0 := hz 0 (by simp) (Nat.le_refl _)
      have hr : trimL r = r.take 0 := ih 0 (Nat.zero_le _) (fun j h _ => hz (j + 1) (by simpa using h) (Nat.zero_le _)) (fun _ h => absurd h (by omega))
      rw [hr, if_pos ⟨by simp, h0⟩]
      rfl
    | succ k =>
      have hr : trimL r = r.take k := ih k (by simpa using hk) (fun j h hj => hz (j + 1) (by simpa using h) (by omega)) (fun h h0 => by
        obtain ⟨m, rfl⟩ : ∃ m, k = m + 1 := ⟨k - 1, by omega⟩
        have hk2 : m + 1 ≤ r.length := by simpa using hk
        exact hl (by show m + 1 < (d :: r).length; rw [List.length_cons]; omega) (by omega))
      rw [hr, List.take_succ_cons, if_neg]
      intro e
      rcases Nat.eq_zero_or_pos k with h0 | h0
      · subst h0
        have := hl (by simp) (by omega)
        exact this (by simpa using e.2)
      · have : (r.take k).length = 0 := by rw [e.1]; rfl
        rw [List.length_take] at this
        simp at hk
        omega

/-! ### order -/
/-- less, equal, greater -/
def cmpI (x y : Int) : Int := if x < y then -1 else if y < x then 1 else 0
theorem nval_short (a b : List Int) (ha : DigN a) (hb : DigN b) (hl : a.length < b.length) (hlast : b.getLastD 1 ≠ 0) : nval a < nval b := by
  induction a generalizing b with
  | nil =>
    have h0 := nval_nonneg b hb
    have hz := nval_zero b hb
    have ht := trim_last b hlast
    have : ¬ nval b = 0 := fun e => by
      have := hz.1 e
      rw [ht] at this
      rw [this] at hl
      simp at hl
    show (0 : Int) < _
    omega
  | cons x a ih =>
    cases b with
    | nil => simp at hl
    | cons y b =>
      have hb1 : b.getLastD 1 ≠ 0 := by
        cases b with
        | nil => simp at hl
        | cons z b => simpa using hlast
      have := ih b ha.tail hb.tail (by simpa using hl) hb1
      have := ha.head
      have := hb.head
      unfold nval
      omega
theorem nval_lt_down (a b : List Int) (ha : DigN a) (hb : DigN b) (hl : a.length = b.length) (k : Nat) (hk : nval (a.drop k) < nval (b.drop k)) : nval a < nval b := by
  induction k with
  | zero => simpa using hk
  | succ k ih =>
    apply ih
    by_cases h : k < a.length
    · rw [nval_drop a k h, nval_drop b k (by omega)]
      have := ha.at_ k h
      have := hb.at_ k (by omega)
      omega
    · rw [List.drop_of_length_le (by omega), List.drop_of_length_le (by omega)] at hk
      exact absurd hk (Int.lt_irrefl _)

/-! ### sums -/
def addL : List Int → List Int → Int → List Int
  | [], [], c => if 0 < c then [c] else []
  | x :: a, [], c => (c + x) % 1000000000 :: addL a [] ((c + x) / 1000000000)
  | [], y :: b, c => (c + y) % 1000000000 :: addL [] b ((c + y) / 1000000000)
  | x :: a, y :: b, c => (c + x + y) % 1000000000 :: addL a b ((c + x + y) / 1000000000)
theorem addL_val (a b : List Int) (c : Int) (ha : DigN a) (hb : DigN b) (h0 : 0 ≤ c) (h1 : c ≤ 1) : nval (addL a b c) = nval a + nval b + c ∧ DigN (addL a b c) ∧ (addL a b c).length ≤ a.length + b.length + 1 := by
  induction a, b, c using addL.induct with
  | case1 c hc => simp only [addL, if_pos hc]; exact ⟨(by simp [nval]), DigN.cons (by omega) (by omega) (fun x hx => by cases hx), by simp⟩
  | case2 c hc => simp only [addL, if_neg hc]; exact ⟨(by simp [nval]; omega), (fun x hx => by cases hx), by simp⟩
  | case3 c x a ih =>
    have hx := ha.head
    obtain ⟨i1, i2, i3⟩ := ih ha.tail hb (by omega) (by omega)
    refine ⟨?_, ?_, ?_⟩
    · simp only [addL, nval] at i1 ⊢; omega
    · simp only [addL]; exact DigN.cons (by omega) (by omega) i2
    · simp only [addL, List.length_cons, List.length_nil] at i3 ⊢; omega
  | case4 c y b ih =>
    have hy := hb.head
    obtain ⟨i1, i2, i3⟩ := ih ha hb.tail (by omega) (by omega)
    refine ⟨?_, ?_, ?_⟩
    · simp only [addL, nval] at i1 ⊢; omega
    · simp only [addL]; exact DigN.cons (by omega) (by omega) i2
    · simp only [addL, List.length_cons, List.length_nil] at i3 ⊢; omega
  | case5 c x a y b ih =>
    have hx := ha.head
    have hy := hb.head
    obtain ⟨i1, i2, i3⟩ := ih ha.tail hb.tail (by omega) (by omega)
    refine ⟨?_, ?_, ?_⟩
    · simp only [addL, nval] at i1 ⊢; omega
    · simp only [addL]; exact DigN.cons (by omega) (by omega) i2
    · simp only [addL, List.length_cons] at i3 ⊢; omega

/-! ### differences -/
def subL : List Int → List Int → Int → List Int
  | [], _, _ => []
  | x :: a, b, c => if x - c - b.headD 0 < 0 then (x - c - b.headD 0 + 1000000000) :: subL a b.tail 1 else (x - c - b.headD 0) :: subL a b.tail 0
theorem subL_val (a b : List Int) (c : Int) (ha : DigN a) (hb : DigN b) (hl : b.length ≤ a.length) (h0 : 0 ≤ c) (h1 : c ≤ 1) (hle : nval b + c ≤ nval a) : nval (subL a b c) = nval a - nval b - c ∧ DigN (subL a b c) ∧ (subL a b c).length = a.length := by
  induction a generalizing b c with
  | nil =>
    have : b = [] := List.eq_nil_of_length_eq_zero (by simpa using hl)
    subst this
    have h3 : (0 : Int) + c ≤ 0 := hle
    refine ⟨?_, (fun x hx => by cases hx), rfl⟩
    show (0 : Int) = 0 - 0 - c
    omega
  | cons x a ih =>
    have hx := ha.head
    have hh : 0 ≤ b.headD 0 ∧ b.headD 0 ≤ 999999999 := by
      cases b with
      | nil => simp
      | cons y b => exact hb.head
    have hv : nval b = b.headD 0 + 1000000000 * nval b.tail := by
      cases b with
      | nil => simp [nval]
      | cons y b => simp [nval]
    have hbt : DigN b.tail := by
      cases b with
      | nil => exact hb
      | cons y b => exact hb.tail
    have hlt : b.tail.length ≤ a.length := by rw [List.length_tail]; simp at hl; omega
    simp only [nval] at hle ⊢
    unfold subL
    by_cases hn : x - c - b.headD 0 < 0
    · obtain ⟨i1, i2, i3⟩ := ih b.tail 1 ha.tail hbt hlt (by omega) (by omega) (by omega)
      rw [if_pos hn]
      exact ⟨by simp only [nval]; omega, DigN.cons (by omega) (by omega) i2, by simp [i3]⟩
    · obtain ⟨i1, i2, i3⟩ := ih b.tail 0 ha.tail hbt hlt (by omega) (by omega) (by omega)
      rw [if_neg hn]
      exact ⟨by simp only [nval]; omega, DigN.cons (by omega) (by omega) i2, by simp [i3]⟩

/-- at most 50 limbs, else none -/
def capL (xs : List Int) : List Int := if 50 < xs.length then [] else xs
/-- what the functions of the chapter answer for a number -/
def natRes (n : Int) : List Int := capL (limbs n.toNat)
end Go.Proofs.Ytofehcpapdlcnaa
