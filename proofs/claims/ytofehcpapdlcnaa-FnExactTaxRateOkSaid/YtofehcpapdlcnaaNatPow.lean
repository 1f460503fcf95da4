/-
  Plain facts on limbs and powers of 1000000000: setting a limb, filling up with zeros, when limbs are those of their number.
-/
import Derived.Test.YtofehcpapdlcnaaNatPlain
namespace Go.Proofs.Ytofehcpapdlcnaa
open Go.RowKit

/-- the power of the base -/
def bp : Nat → Int
  | 0 => 1
  | k + 1 => 1000000000 * bp k
theorem bp_pos (k : Nat) : 0 < bp k := by
  induction k with
  | zero => decide
  | succ k ih => show 0 < 1000000000 * bp k; omega
theorem bp_add (j k : Nat) : bp (j + k) = bp j * bp k := by
  induction j with
  | zero => rw [Nat.zero_add]; show _ = 1 * _; omega
  | succ j ih =>
    rw [show j + 1 + k = (j + k) + 1 by omega]
    show 1000000000 * bp (j + k) = 1000000000 * bp j * bp k
    rw [ih, Int.mul_assoc]
theorem bp_mono {j k : Nat} (h : j ≤ k) : bp j ≤ bp k := by
  obtain ⟨d, rfl⟩ := Nat.le.dest h
  rw [bp_add]
  have h1 := bp_pos j
  have h2 := bp_pos d
  have h3 := Int.mul_le_mul_of_nonneg_left (show 1 ≤ bp d by omega) (show 0 ≤ bp j by omega)
  omega
theorem nval_append (xs ys : List Int) : nval (xs ++ ys) = nval xs + bp xs.length * nval ys := by
  induction xs with
  | nil => show nval ys = 0 + 1 * nval ys; omega
  | cons d r ih =>
    show d + 1000000000 * nval (r ++ ys) = d + 1000000000 * nval r + 1000000000 * bp r.length * nval ys
    rw [ih, Int.mul_add, Int.mul_assoc, Int.add_assoc]
theorem nval_lt (xs : List Int) (h : DigN xs) : nval xs < bp xs.length := by
  induction xs with
  | nil => show (0 : Int) < 1; decide
  | cons d r ih =>
    have h1 := ih h.tail
    have h2 := h.head
    show d + 1000000000 * nval r < 1000000000 * bp r.length
    omega
theorem DigN.append {xs ys : List Int} (h : DigN xs) (k : DigN ys) : DigN (xs ++ ys) := fun d hd => (List.mem_append.1 hd).elim (h d) (k d)
theorem dig_one {d : Int} (h0 : 0 ≤ d) (h1 : d ≤ 999999999) : DigN [d] := fun x hx => by simp at hx; omega
theorem dig_zeros (n : Nat) : DigN (List.replicate n 0) := fun d hd => by rw [(List.mem_replicate.1 hd).2]; omega
theorem nval_zeros (n : Nat) : nval (List.replicate n 0) = 0 := by
  induction n with
  | zero => rfl
  | succ n ih => rw [List.replicate_succ]; show 0 + 1000000000 * nval (List.replicate n 0) = 0; omega
theorem nval_set (xs : List Int) (k : Nat) (d : Int) (h : k < xs.length) : nval (xs.set k d) = nval xs + (d - xs[k]) * bp k := by
  induction xs generalizing k with
  | nil => simp at h
  | cons x r ih =>
    cases k with
    | zero => show d + 1000000000 * nval r = x + 1000000000 * nval r + (d - x) * 1; omega
    | succ k =>
      have hk : k < r.length := by simpa using h
      have h1 := ih k hk
      show x + 1000000000 * nval (r.set k d) = x + 1000000000 * nval r + (d - r[k]) * (1000000000 * bp k)
      rw [h1, Int.mul_add, Int.add_assoc]
      congr 2
      rw [← Int.mul_assoc, ← Int.mul_assoc, Int.mul_comm 1000000000]
theorem DigN.set {xs : List Int} (h : DigN xs) (k : Nat) {d : Int} (h0 : 0 ≤ d) (h1 : d ≤ 999999999) : DigN (xs.set k d) := fun x hx => by
  rcases List.mem_or_eq_of_mem_set hx with hx | rfl
  · exact h x hx
  · exact ⟨h0, h1⟩

/-- the last limb is not 0: the number is at least the power below its length -/
theorem nval_ge (xs : List Int) (h : DigN xs) (hl : xs.getLastD 1 ≠ 0) (hn : 0 < xs.length) : bp (xs.length - 1) ≤ nval xs := by
  have hne : xs ≠ [] := fun e => by rw [e] at hn; simp at hn
  have e := (List.dropLast_concat_getLast hne).symm
  have hg : xs.getLastD 1 = xs.getLast hne := by
    rw [List.getLastD_eq_getLast?, List.getLast?_eq_some_getLast hne]
    rfl
  rw [hg] at hl
  have hd := h _ (List.getLast_mem hne)
  rw [e, nval_append]
  have h1 := nval_nonneg xs.dropLast (fun d hd => h d (List.dropLast_subset _ hd))
  have h2 : nval [xs.getLast hne] = xs.getLast hne := by show xs.getLast hne + 1000000000 * 0 = _; omega
  rw [h2, List.length_append, List.length_dropLast]
  simp only [List.length_singleton]
  rw [show xs.length - 1 + 1 - 1 = xs.length - 1 by omega]
  have h3 := bp_pos (xs.length - 1)
  have h4 := Int.mul_le_mul_of_nonneg_left (show 1 ≤ xs.getLast hne by omega) (show 0 ≤ bp (xs.length - 1) by omega)
  omega
/-- the other way: then the limbs are those of their number -/
theorem limbs_of_ge (xs : List Int) (h : DigN xs) (hg : 0 < xs.length → bp (xs.length - 1) ≤ nval xs) : xs = limbs (nval xs).toNat := by
  rw [← trim_limbs xs h]
  symm
  apply trim_last
  intro h0
  by_cases hne : xs = []
  · rw [hne] at h0; exact absurd h0 (by decide)
  · have hn : 0 < xs.length := List.length_pos_iff.2 hne
    have e := (List.dropLast_concat_getLast hne).symm
    have hg2 : xs.getLastD 1 = xs.getLast hne := by
      rw [List.getLastD_eq_getLast?, List.getLast?_eq_some_getLast hne]
      rfl
    have h1 := hg hn
    rw [e, nval_append, ← hg2, h0] at h1
    have h2 := nval_lt xs.dropLast (fun d hd => h d (List.dropLast_subset _ hd))
    have h3 : nval [(0 : Int)] = 0 := rfl
    rw [h3, List.length_append, List.length_dropLast] at h1
    rw [List.length_dropLast] at h2
    simp only [List.length_singleton] at h1
    rw [show xs.length - 1 + 1 - 1 = xs.length - 1 by omega] at h1
    omega
theorem ok_ge {xs : List Int} (h : natOkB xs = true) (hn : 0 < xs.length) : bp (xs.length - 1) ≤ nval xs := nval_ge xs (natOk_parts h).1 (natOk_parts h).2.2 hn

/-- filled up with zeros to a length -/
def padL (xs : List Int) (n : Nat) : List Int := xs ++ List.replicate (n - xs.length) 0
theorem padL_length (xs : List Int) (n : Nat) : (padL xs n).length = max xs.length n := by unfold padL; rw [List.length_append, List.length_replicate]; omega
theorem padL_val (xs : List Int) (n : Nat) : nval (padL xs n) = nval xs := by unfold padL; rw [nval_append, nval_zeros]; omega
theorem padL_dig {xs : List Int} (h : DigN xs) (n : Nat) : DigN (padL xs n) := h.append (dig_zeros _)
theorem padL_long (xs : List Int) (n : Nat) (h : n ≤ xs.length) : padL xs n = xs := by unfold padL; rw [show n - xs.length = 0 by omega]; simp
theorem padL_at (xs : List Int) (k : Nat) (h : k < (padL xs (k + 1)).length) : (padL xs (k + 1))[k] = xs.getD k 0 := by
  unfold padL at h ⊢
  by_cases hk : k < xs.length
  · rw [List.getElem_append_left hk, List.getD_eq_getElem?_getD, List.getElem?_eq_getElem hk]; rfl
  · rw [List.getElem_append_right (by omega), List.getElem_replicate, List.getD_eq_getElem?_getD, List.getElem?_eq_none (by omega)]; rfl

/-- adding a value at a place: the new limbs; the carry -/
def addAtL (xs : List Int) (p : Nat) (v : Int) : List Int := (padL xs (p + 1)).set p ((v + xs.getD p 0) % 1000000000)
def addAtC (xs : List Int) (p : Nat) (v : Int) : Int := (v + xs.getD p 0) / 1000000000
theorem getD_dig {xs : List Int} (h : DigN xs) (p : Nat) : 0 ≤ xs.getD p 0 ∧ xs.getD p 0 ≤ 999999999 := by
  rw [List.getD_eq_getElem?_getD]
  by_cases hk : p < xs.length
  · rw [List.getElem?_eq_getElem hk]; exact h.at_ p hk
  · rw [List.getElem?_eq_none (by omega)]; show 0 ≤ (0 : Int) ∧ (0 : Int) ≤ 999999999; omega
theorem addAt_length (xs : List Int) (p : Nat) (v : Int) : (addAtL xs p v).length = max xs.length (p + 1) := by unfold addAtL; rw [List.length_set, padL_length]
theorem addAt_dig {xs : List Int} (h : DigN xs) (p : Nat) (v : Int) : DigN (addAtL xs p v) := (padL_dig h _).set p (by omega) (by omega)
theorem addAt_val (xs : List Int) (p : Nat) (v : Int) : nval (addAtL xs p v) + addAtC xs p v * bp (p + 1) = nval xs + v * bp p := by
  have hl : p < (padL xs (p + 1)).length := by rw [padL_length]; omega
  unfold addAtL addAtC
  rw [nval_set _ p _ hl, padL_val, padL_at]
  generalize xs.getD p 0 = d
  show nval xs + ((v + d) % 1000000000 - d) * bp p + (v + d) / 1000000000 * (1000000000 * bp p) = nval xs + v * bp p
  rw [← Int.mul_assoc, Int.add_assoc, ← Int.add_mul]
  rw [show (v + d) % 1000000000 - d + (v + d) / 1000000000 * 1000000000 = v by omega]
/-- a new last limb -/
theorem addAt_new (xs : List Int) (p : Nat) (v : Int) (hp : p = xs.length) (h0 : 0 < v) (h1 : v ≤ 999999999) : addAtC xs p v = 0 ∧ addAtL xs p v = xs ++ [v] := by
  subst hp
  have e : xs.getD xs.length 0 = 0 := by rw [List.getD_eq_getElem?_getD, List.getElem?_eq_none (Nat.le_refl _)]; rfl
  unfold addAtL addAtC padL
  rw [e]
  refine ⟨by omega, ?_⟩
  rw [show xs.length + 1 - xs.length = 1 by omega, List.set_append_right _ _ (Nat.le_refl _), Nat.sub_self]
  show xs ++ [(v + 0) % 1000000000] = xs ++ [v]
  rw [show (v + 0) % 1000000000 = v by omega]

/-- subtracting a value at a place; the borrow -/
def takeAtL (xs : List Int) (p : Nat) (v : Int) : List Int := xs.set p ((xs.getD p 0 - v) % 1000000000)
def takeAtC (xs : List Int) (p : Nat) (v : Int) : Int := -((xs.getD p 0 - v) / 1000000000)
theorem takeAt_length (xs : List Int) (p : Nat) (v : Int) : (takeAtL xs p v).length = xs.length := by unfold takeAtL; rw [List.length_set]
theorem takeAt_dig {xs : List Int} (h : DigN xs) (p : Nat) (v : Int) : DigN (takeAtL xs p v) := h.set p (by omega) (by omega)
theorem takeAt_bound {xs : List Int} (h : DigN xs) (p : Nat) (v : Int) (h0 : 0 ≤ v) (h1 : v ≤ 999999999000000000) : 0 ≤ takeAtC xs p v ∧ takeAtC xs p v ≤ 999999999 := by
  have hd := getD_dig h p
  unfold takeAtC
  omega
theorem takeAt_val (xs : List Int) (p : Nat) (v : Int) (hp : p < xs.length) : nval (takeAtL xs p v) - takeAtC xs p v * bp (p + 1) = nval xs - v * bp p := by
  have hg : xs.getD p 0 = xs[p] := by rw [List.getD_eq_getElem?_getD, List.getElem?_eq_getElem hp]; rfl
  unfold takeAtL takeAtC
  rw [nval_set _ p _ hp, hg]
  generalize xs[p] = d
  show nval xs + ((d - v) % 1000000000 - d) * bp p - -((d - v) / 1000000000) * (1000000000 * bp p) = nval xs - v * bp p
  rw [← Int.mul_assoc, Int.add_sub_assoc, ← Int.sub_mul]
  rw [show (d - v) % 1000000000 - d - -((d - v) / 1000000000) * 1000000000 = -v by omega, Int.neg_mul]
  omega
end Go.Proofs.Ytofehcpapdlcnaa
