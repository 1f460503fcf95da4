/-
  Shares in plain numbers: what is rounded down, what is missing, and the scan for the greatest rest.
-/
import Derived.Test.YtipbdpdmefcofaaDoorStablePlain
namespace Go.Proofs.YtipbdpdmefcofaaDoor

/-- shares rounded down, and what is left of each, over the whole -/
theorem sum_parts (X T : Nat) (w : List Nat) : (w.map fun y => X * y / T).sum * T + (w.map fun y => X * y % T).sum = X * w.sum := by
  induction w with
  | nil => simp
  | cons y w ih =>
    simp only [List.map_cons, List.sum_cons, Nat.add_mul, Nat.mul_add]
    have := Nat.div_add_mod (X * y) T
    rw [Nat.mul_comm] at this
    omega
theorem parts_le {X : Nat} {w : List Nat} (h : 0 < w.sum) : (w.map fun y => X * y / w.sum).sum ≤ X := by
  have h1 := sum_parts X w.sum w
  have h2 : (w.map fun y => X * y / w.sum).sum * w.sum ≤ X * w.sum := by omega
  exact Nat.le_of_mul_le_mul_right h2 h
/-- what is missing, in rests -/
theorem missing_rests {X : Nat} {w : List Nat} : (w.map fun y => X * y % w.sum).sum = (X - (w.map fun y => X * y / w.sum).sum) * w.sum := by
  have h1 := sum_parts X w.sum w
  rw [Nat.sub_mul]
  omega
theorem map_at (w : List Nat) (g : Nat → Nat) : (List.range w.length).map (fun i => g w[i]!) = w.map g := by
  apply List.ext_getElem
  · simp
  · intro i h1 h2
    simp at h1 h2 ⊢
    rw [List.getElem?_eq_getElem h2]
    rfl
theorem sum_few (r : Nat → Nat) (T : Nat) (h : ∀ j, r j < T) (l : List Nat) : (l.map r).sum ≤ (l.filter fun j => decide (0 < r j)).length * (T - 1) := by
  induction l with
  | nil => simp
  | cons x l ih =>
    rw [List.map_cons, List.sum_cons, List.filter_cons]
    have := h x
    split
    · rw [List.length_cons, Nat.succ_mul]; omega
    · rename_i hx
      simp only [decide_eq_true_eq] at hx
      omega
/-- while fewer are taken than are missing, one that is left has a rest -/
theorem one_left {X : Nat} {w : List Nat} (h : 0 < w.sum) {C : List Nat} (hC : C.length < X - (w.map fun y => X * y / w.sum).sum) (hn : ∀ j, j < w.length → j ∉ C → X * w[j]! % w.sum = 0) : False := by
  have h1 := missing_rests (X := X) (w := w)
  rw [← map_at w (fun y => X * y % w.sum)] at h1
  have h2 := sum_few (fun i => X * w[i]! % w.sum) w.sum (fun _ => Nat.mod_lt _ h) (List.range w.length)
  rw [h1] at h2
  have h3 := nodup_sub ((List.range w.length).filter fun j => decide (0 < X * w[j]! % w.sum)) C (List.Pairwise.filter _ List.nodup_range) (fun j hj => by
    rw [List.mem_filter, List.mem_range, decide_eq_true_eq] at hj
    refine Classical.byContradiction fun hc => ?_
    have := hn j hj.1 hc
    omega)
  have h4 := Nat.mul_le_mul_right (w.sum - 1) h3
  have h5 : C.length * (w.sum - 1) < (X - (w.map fun y => X * y / w.sum).sum) * w.sum := by
    have h6 : (C.length + 1) * w.sum ≤ (X - (w.map fun y => X * y / w.sum).sum) * w.sum := Nat.mul_le_mul_right _ hC
    have h7 : C.length * (w.sum - 1) ≤ C.length * w.sum := Nat.mul_le_mul_left _ (by omega)
    rw [Nat.add_mul, Nat.one_mul] at h6
    omega
  omega
theorem missing_le {X : Nat} {w : List Nat} (h : 0 < w.sum) : X - (w.map fun y => X * y / w.sum).sum ≤ w.length := by
  have h1 := missing_rests (X := X) (w := w)
  rw [← map_at w (fun y => X * y % w.sum)] at h1
  have h2 := sum_few (fun i => X * w[i]! % w.sum) w.sum (fun _ => Nat.mod_lt _ h) (List.range w.length)
  rw [h1] at h2
  have h3 : ((List.range w.length).filter fun j => decide (0 < X * w[j]! % w.sum)).length ≤ w.length := by
    have := List.length_filter_le (fun j => decide (0 < X * w[j]! % w.sum)) (List.range w.length)
    rw [List.length_range] at this
    exact this
  have h4 := Nat.mul_le_mul_right (w.sum - 1) h3
  have h5 : w.length * (w.sum - 1) ≤ w.length * w.sum := Nat.mul_le_mul_left _ (by omega)
  exact Nat.le_of_mul_le_mul_right (by omega) h
/-- what a scan for the greatest has found: nothing above 0, or the first of the greatest -/
def Found (k : Nat → Nat) (i : Nat) (b : Int) : Prop := (b = -1 ∧ ∀ j, j < i → k j = 0) ∨ ∃ m : Nat, b = (m : Int) ∧ m < i ∧ 0 < k m ∧ ∀ j, j < i → j ≠ m → (k j < k m ∨ (k j = k m ∧ m < j))
theorem found_none (k : Nat → Nat) : Found k 0 (-1) := Or.inl ⟨rfl, fun _ h => absurd h (Nat.not_lt_zero _)⟩
theorem found_take {k : Nat → Nat} {i : Nat} {b : Int} (h : Found k i b) (h1 : 0 < k i) (h2 : b < 0 ∨ k b.toNat < k i) : Found k (i + 1) i := by
  refine Or.inr ⟨i, rfl, by omega, h1, fun j hj hne => ?_⟩
  rcases h with ⟨rfl, h⟩ | ⟨m, rfl, hm, hp, h⟩
  · have := h j (by omega); omega
  · rw [Int.toNat_natCast] at h2
    by_cases hj2 : j = m
    · subst hj2; omega
    · have := h j (by omega) hj2; omega
theorem found_pass {k : Nat → Nat} {i : Nat} {b : Int} (h : Found k i b) (h1 : ¬ (0 < k i ∧ (b < 0 ∨ k b.toNat < k i))) : Found k (i + 1) b := by
  rcases h with ⟨rfl, h⟩ | ⟨m, rfl, hm, hp, h⟩
  · refine Or.inl ⟨rfl, fun j hj => ?_⟩
    by_cases e : j = i
    · subst e; omega
    · exact h j (by omega)
  · rw [Int.toNat_natCast] at h1
    refine Or.inr ⟨m, rfl, by omega, hp, fun j hj hne => ?_⟩
    by_cases e : j = i
    · subst e; omega
    · exact h j (by omega) hne
end Go.Proofs.YtipbdpdmefcofaaDoor
