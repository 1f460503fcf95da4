/-
  Plain facts on division limb by limb.
-/
import Derived.Test.YtofehcpapdlcnaaNatPow
namespace Go.Proofs.Ytofehcpapdlcnaa
open Go.RowKit

/-- one limb more of a division -/
theorem div_step (x N D : Int) (hD : 0 < D) (hx0 : 0 ≤ x) (hx1 : x ≤ 999999999) :
    (x + 1000000000 * N) / D = (N % D * 1000000000 + x) / D + 1000000000 * (N / D) ∧ (x + 1000000000 * N) % D = (N % D * 1000000000 + x) % D ∧
      0 ≤ (N % D * 1000000000 + x) / D ∧ (N % D * 1000000000 + x) / D ≤ 999999999 ∧ 0 ≤ N % D ∧ N % D < D := by
  have h0 := Int.emod_nonneg N (show D ≠ 0 by omega)
  have h1 := Int.emod_lt_of_pos N hD
  have e : x + 1000000000 * N = (N % D * 1000000000 + x) + D * (1000000000 * (N / D)) := by
    have h2 := Int.emod_add_mul_ediv N D
    have h3 : 1000000000 * N = 1000000000 * (N % D) + D * (1000000000 * (N / D)) := by
      conv => lhs; rw [← h2, Int.mul_add, Int.mul_left_comm]
    omega
  refine ⟨?_, ?_, ?_, ?_, h0, h1⟩
  · rw [e, Int.add_mul_ediv_left _ _ (by omega)]
  · rw [e, Int.add_mul_emod_self_left]
  · exact Int.ediv_nonneg (by omega) (by omega)
  · have : (N % D * 1000000000 + x) / D < 1000000000 := Int.ediv_lt_of_lt_mul hD (by
      have h4 : N % D * 1000000000 + x < (N % D + 1) * 1000000000 := by omega
      have h5 : (N % D + 1) * 1000000000 ≤ D * 1000000000 := Int.mul_le_mul_of_nonneg_right (by omega) (by omega)
      omega)
    omega

/-- a division that has come down to limb k -/
def DivR (a : List Int) (D : Int) (k : Nat) (R : Int) (qs : List Int) : Prop :=
  R = nval (a.drop k) % D ∧ nval qs = nval (a.drop k) / D ∧ DigN qs ∧ qs.length + k = a.length
theorem DivR.start (a : List Int) (D : Int) : DivR a D a.length 0 [] := by
  refine ⟨?_, ?_, (fun d hd => by cases hd), by simp⟩
  · rw [List.drop_of_length_le (Nat.le_refl _)]; show (0 : Int) = 0 % D; simp
  · rw [List.drop_of_length_le (Nat.le_refl _)]; show (0 : Int) = 0 / D; simp
theorem DivR.bound {a : List Int} {D : Int} {k : Nat} {R : Int} {qs : List Int} (h : DivR a D k R qs) (hD : 0 < D) : 0 ≤ R ∧ R < D := by
  rw [h.1]
  exact ⟨Int.emod_nonneg _ (by omega), Int.emod_lt_of_pos _ hD⟩
theorem DivR.next {a : List Int} {D : Int} {i : Nat} {R : Int} {qs : List Int} (h : DivR a D (i + 1) R qs) (hD : 0 < D) (hd : DigN a) (hi : i < a.length) :
    DivR a D i ((R * 1000000000 + a[i]) % D) ((R * 1000000000 + a[i]) / D :: qs) := by
  obtain ⟨h1, h2, h3, h4⟩ := h
  have hx := hd.at_ i hi
  obtain ⟨e1, e2, e3, e4, _, _⟩ := div_step a[i] (nval (a.drop (i + 1))) D hD hx.1 hx.2
  subst h1
  refine ⟨by rw [nval_drop a i hi, e2], ?_, DigN.cons e3 e4 h3, by simp; omega⟩
  show _ + 1000000000 * nval qs = _
  rw [nval_drop a i hi, e1, h2]
theorem DivR.digit {a : List Int} {D : Int} {i : Nat} {R : Int} {qs : List Int} (h : DivR a D (i + 1) R qs) (hD : 0 < D) (hd : DigN a) (hi : i < a.length) :
    0 ≤ (R * 1000000000 + a[i]) / D ∧ (R * 1000000000 + a[i]) / D ≤ 999999999 := by
  have hx := hd.at_ i hi
  obtain ⟨_, _, e3, e4, _, _⟩ := div_step a[i] (nval (a.drop (i + 1))) D hD hx.1 hx.2
  rw [h.1]
  exact ⟨e3, e4⟩
theorem DivR.done {a : List Int} {D R : Int} {qs : List Int} (h : DivR a D 0 R qs) : trimL qs = limbs (nval a / D).toNat ∧ R = nval a % D := by
  obtain ⟨h1, h2, h3, h4⟩ := h
  rw [List.drop_zero] at h1 h2
  exact ⟨by rw [trim_limbs qs h3, h2], h1⟩
theorem zeros_set (i : Nat) (q : Int) (qs : List Int) : (List.replicate (i + 1) 0 ++ qs).set i q = List.replicate i 0 ++ (q :: qs) := by
  rw [List.replicate_succ', List.append_assoc, List.set_append_right _ _ (by simp), List.length_replicate, Nat.sub_self]
  rfl
theorem limbs_val (n : Nat) : nval (limbs n) = n := by
  induction n using Nat.strongRecOn with
  | _ n ih =>
    by_cases h0 : n = 0
    · subst h0; rw [limbs, dif_pos rfl]; rfl
    · rw [limbs, dif_neg h0]
      have := ih (n / 1000000000) (by omega)
      show ((n % 1000000000 : Nat) : Int) + 1000000000 * nval (limbs (n / 1000000000)) = n
      rw [this]
      omega
theorem limbs_toNat (N : Int) (h : 0 ≤ N) : nval (limbs N.toNat) = N := by rw [limbs_val]; omega
theorem limbs_digN (n : Nat) : DigN (limbs n) := by
  induction n using Nat.strongRecOn with
  | _ n ih =>
    by_cases h0 : n = 0
    · subst h0; rw [limbs, dif_pos rfl]; exact fun d hd => by cases hd
    · rw [limbs, dif_neg h0]
      exact DigN.cons (by omega) (by omega) (ih _ (by omega))
theorem limbs_lastN (n : Nat) : (limbs n).getLastD 1 ≠ 0 := by
  induction n using Nat.strongRecOn with
  | _ n ih =>
    by_cases h0 : n = 0
    · subst h0; rw [limbs, dif_pos rfl]; decide
    · by_cases hs : n / 1000000000 = 0
      · rw [limbs, dif_neg h0, hs, show limbs 0 = [] from by rw [limbs, dif_pos rfl]]
        show ((n % 1000000000 : Nat) : Int) ≠ 0
        omega
      · have hi := ih (n / 1000000000) (by omega)
        have e : limbs (n / 1000000000) = ((n / 1000000000 % 1000000000 : Nat) : Int) :: limbs (n / 1000000000 / 1000000000) := by rw [limbs, dif_neg hs]
        rw [limbs, dif_neg h0]
        rw [e] at hi ⊢
        simpa using hi
theorem limbs_length_le (n : Nat) (k : Nat) (h : (n : Int) < bp k) : (limbs n).length ≤ k := by
  rcases Nat.lt_or_ge k (limbs n).length with hl | hl
  · have h1 := nval_ge (limbs n) (limbs_digN n) (limbs_lastN n) (by omega)
    have h2 := bp_mono (show k ≤ (limbs n).length - 1 by omega)
    rw [limbs_val] at h1
    omega
  · exact hl
/-- the greatest digit -/
theorem digit_le (q r b : Int) (hb : 0 < b) : q * b ≤ r ↔ q ≤ r / b := (Int.le_ediv_iff_mul_le hb).symm
end Go.Proofs.Ytofehcpapdlcnaa
