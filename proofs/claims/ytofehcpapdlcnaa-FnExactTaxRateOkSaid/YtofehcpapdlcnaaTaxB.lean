/-
  Chapter 14 in plain words: what a tax rate is.
-/
import Derived.Test.YtofehcpapdlcnaaDec
namespace Go.Proofs.Ytofehcpapdlcnaa
open Go.RowKit

def oneD : DI := (ofZ 1, 0)
def taxB (a : DI) : Bool := okD a && (!a.1.1 && (decide (a.1.2.length ≤ 1) && decide (cmpD a oneD ≤ 0)))
theorem taxB_bad {a : DI} (h : okD a = false) : taxB a = false := by unfold taxB; rw [h]; rfl
theorem taxB_neg {a : DI} (h : a.1.1 = true) : taxB a = false := by unfold taxB; rw [h]; simp
theorem taxB_long {a : DI} (h : ¬ a.1.2.length ≤ 1) : taxB a = false := by unfold taxB; rw [decide_eq_false h]; simp
theorem taxB_is {a : DI} (h : okD a = true) (h1 : a.1.1 = false) (h2 : a.1.2.length ≤ 1) : taxB a = decide (cmpD a oneD ≤ 0) := by unfold taxB; rw [h, h1, decide_eq_true h2]; simp
theorem taxB_ok {a : DI} (h : taxB a = true) : okD a = true ∧ a.1.1 = false ∧ a.1.2.length ≤ 1 ∧ cmpD a oneD ≤ 0 := by
  unfold taxB at h
  simp only [Bool.and_eq_true, Bool.not_eq_true', decide_eq_true_eq] at h
  exact ⟨h.1, h.2.1, h.2.2.1, h.2.2.2⟩
/-- the sign that IntSign gives -/
theorem sign_neg {x : SI} (h : okS x = true) : decide (cmpS x zeroS < 0) = x.1 := by
  rw [okS_sign h]
  unfold cmpS
  rw [if_pos ⟨h, zeroS_ok⟩, zeroS_val]
  unfold cmpI
  split
  · rename_i h1
    rw [decide_eq_true h1]; rfl
  · rename_i h1
    rw [decide_eq_false h1]
    split <;> rfl
theorem oneD_len : oneD.1.2.length ≤ 1048576 := by have := ofZ_len 1; show (ofZ 1).2.length ≤ _; omega
end Go.Proofs.Ytofehcpapdlcnaa
