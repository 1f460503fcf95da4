/-
  What NatZeros of package spec returns: how many zeros stand at the end of the numeral.
-/
import Derived.Test.YtccajcddijhmcaaDoorDecPlain
import Derived.Test.YtccajcddijhmcaaDoorDivPlain
namespace Go.Proofs.YtccajcddijhmcaaDoor
open Go.RowKit

/-- how many zeros stand at the end -/
def zerosL (l : List UInt8) : Nat := (l.reverse.takeWhile (fun c => c == 48)).length
theorem tw_at {α : Type} (p : α → Bool) (l : List α) : ∀ k, k < (l.takeWhile p).length → ∃ h2 : k < l.length, p l[k] = true := by
  induction l with
  | nil => intro k h; simp at h
  | cons x r ih =>
    intro k h
    by_cases hx : p x = true
    · rw [List.takeWhile_cons_of_pos hx] at h
      cases k with
      | zero => exact ⟨by simp, hx⟩
      | succ k => obtain ⟨h1, h2⟩ := ih k (by simpa using h); exact ⟨by simpa using h1, h2⟩
    · rw [List.takeWhile_cons_of_neg hx] at h
      simp at h
theorem tw_end {α : Type} (p : α → Bool) (l : List α) (h : (l.takeWhile p).length < l.length) : p l[(l.takeWhile p).length] = false := by
  induction l with
  | nil => simp at h
  | cons x r ih =>
    by_cases hx : p x = true
    · have e : (x :: r).takeWhile p = x :: r.takeWhile p := List.takeWhile_cons_of_pos hx
      have h2 : (r.takeWhile p).length < r.length := by rw [e] at h; simpa using h
      have := ih h2
      simp only [e, List.length_cons, List.getElem_cons_succ]
      exact this
    · have e : (x :: r).takeWhile p = [] := List.takeWhile_cons_of_neg hx
      simp only [e, List.length_nil, List.getElem_cons_zero]
      simpa using hx
theorem zeros_le (l : List UInt8) : zerosL l ≤ l.length := by
  unfold zerosL
  have := (List.takeWhile_sublist (fun c : UInt8 => c == 48) (l := l.reverse)).length_le
  simpa using this
theorem zeros_at (s : ByteArray) (k : Nat) (h : k < zerosL s.data.toList) : ∃ hi : s.size - 1 - k < s.size, (s[s.size - 1 - k].toNat : Int) = 48 := by
  have hl := zeros_le s.data.toList
  have hsz : s.data.toList.length = s.size := rfl
  obtain ⟨h2, h3⟩ := tw_at _ _ k h
  refine ⟨by omega, ?_⟩
  rw [List.getElem_reverse, beq_iff_eq] at h3
  have e : s[s.size - 1 - k]'(by omega) = s.data.toList[s.data.toList.length - 1 - k]'(by omega) := by simp only [hsz]; rfl
  rw [e, h3]
  rfl
theorem zeros_end (s : ByteArray) (k : Nat) (hk : k = zerosL s.data.toList) (h : k < s.size) : ((s[s.size - 1 - k]'(by omega)).toNat : Int) ≠ 48 := by
  have hsz : s.data.toList.length = s.size := rfl
  have hlen : (s.data.toList.reverse.takeWhile (fun c : UInt8 => c == 48)).length < s.data.toList.reverse.length := by
    rw [List.length_reverse, hsz]
    have : (s.data.toList.reverse.takeWhile (fun c : UInt8 => c == 48)).length = k := hk.symm
    omega
  have h3 := tw_end (fun c : UInt8 => c == 48) s.data.toList.reverse hlen
  rw [List.getElem_reverse, beq_eq_false_iff_ne] at h3
  have e : s[s.size - 1 - k]'(by omega) = s.data.toList[s.data.toList.length - 1 - (s.data.toList.reverse.takeWhile (fun c : UInt8 => c == 48)).length]'(by omega) := by
    have hk2 : (s.data.toList.reverse.takeWhile (fun c : UInt8 => c == 48)).length = k := hk.symm
    simp only [hk2, hsz]
    rfl
  rw [e]
  intro e2
  exact h3 (UInt8.toNat_inj.1 (by have h48 : (48 : UInt8).toNat = 48 := rfl; omega))
theorem val_zeros (l : List UInt8) (h : ∀ c ∈ l, c = 48) : valL l = 0 := by
  have : ∀ a : Int, List.foldl (fun a (c : UInt8) => a * 10 + ((c.toNat : Int) - 48)) a l = a * 10 ^ l.length := by
    induction l with
    | nil => intro a; simp
    | cons c r ih =>
      intro a
      have hc : (c.toNat : Int) = 48 := by rw [h c (by simp)]; rfl
      rw [List.foldl_cons, ih (fun x hx => h x (by simp [hx])), hc, List.length_cons, Int.pow_succ, Int.mul_comm (10 ^ r.length) 10, ← Int.mul_assoc]
      congr 1
      omega
  have h2 := this 0
  rw [Int.zero_mul] at h2
  exact h2
theorem zeros_lt (l : List UInt8) (h : 0 < valL l) : zerosL l < l.length := by
  have hl := zeros_le l
  rcases Nat.lt_or_ge (zerosL l) l.length with hlt | hge
  · exact hlt
  · exfalso
    have : ∀ c ∈ l, c = 48 := by
      intro c hc
      obtain ⟨i, hi, rfl⟩ := List.getElem_of_mem hc
      have hr : l.length - 1 - i < zerosL l := by omega
      obtain ⟨h2, h3⟩ := tw_at _ _ _ hr
      rw [List.getElem_reverse, beq_iff_eq] at h3
      rw [← h3]
      congr 1
      omega
    rw [val_zeros l this] at h
    omega
/-- what NatZeros answers -/
def zerosN (a : List Int) : Int := if natOkB a = true ∧ 0 < a.length then zerosL (natT a).data.toList else 0
theorem zerosN_ok {a : List Int} (h : natOkB a = true) (h0 : 0 < a.length) : zerosN a = zerosL (natT a).data.toList ∧ zerosL (natT a).data.toList < (natT a).size := by
  refine ⟨by unfold zerosN; rw [if_pos ⟨h, h0⟩], ?_⟩
  apply zeros_lt
  have e : (natT a).data.toList = Lib.decDigits (nval a).toNat := by conv => lhs; rw [natOk_limbs h, natT_dec]
  have h1 := ok_ge h h0
  have h2 := bp_pos (a.length - 1)
  rw [e, valL_dec]
  omega

end Go.Proofs.YtccajcddijhmcaaDoor
