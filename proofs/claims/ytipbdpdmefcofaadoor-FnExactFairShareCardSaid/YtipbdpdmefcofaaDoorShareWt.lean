/-
  Weights in plain words.
-/
import Derived.Test.YtipbdpdmefcofaaDoorNatPlain
namespace Go.Proofs.YtipbdpdmefcofaaDoor
open Go.RowKit

/-- what WeightsOk answers -/
def okW (w : List Int) : Bool := decide (1 ≤ w.length ∧ w.length ≤ 30) && w.all (fun x => decide (0 ≤ x ∧ x ≤ 1000000000)) && decide (0 < w.sum)
/-- the weights as natural numbers -/
def natW (w : List Int) : List Nat := w.map Int.toNat
structure PartsW (w : List Int) : Prop where
  l1 : 1 ≤ w.length
  l2 : w.length ≤ 30
  all : ∀ x ∈ w, 0 ≤ x ∧ x ≤ 1000000000
  pos : 0 < w.sum
theorem okW_parts {w : List Int} (h : okW w = true) : PartsW w := by
  unfold okW at h
  rw [Bool.and_eq_true, Bool.and_eq_true, decide_eq_true_eq, decide_eq_true_eq, List.all_eq_true] at h
  exact ⟨h.1.1.1, h.1.1.2, fun x hx => by simpa using h.1.2 x hx, h.2⟩
theorem okW_of {w : List Int} (h : PartsW w) : okW w = true := by
  unfold okW
  rw [Bool.and_eq_true, Bool.and_eq_true, decide_eq_true_eq, decide_eq_true_eq, List.all_eq_true]
  exact ⟨⟨⟨h.l1, h.l2⟩, fun x hx => by simpa using h.all x hx⟩, h.pos⟩
theorem sum_nat : ∀ (w : List Int), (∀ x ∈ w, 0 ≤ x ∧ x ≤ 1000000000) → ((natW w).sum : Int) = w.sum ∧ w.sum ≤ 1000000000 * w.length ∧ 0 ≤ w.sum := by
  intro w
  induction w with
  | nil => intro _; exact ⟨rfl, by simp, by simp⟩
  | cons x w ih =>
    intro h
    obtain ⟨h1, h2, h3⟩ := ih fun y hy => h y (List.mem_cons_of_mem _ hy)
    have hx := h x (by simp)
    show (((x.toNat :: natW w).sum : Nat) : Int) = _ ∧ _ ∧ _
    rw [List.sum_cons, List.sum_cons, List.length_cons]
    omega
/-- the whole of the weights -/
theorem PartsW.sum {w : List Int} (h : PartsW w) : ((natW w).sum : Int) = w.sum ∧ 0 < (natW w).sum ∧ (natW w).sum ≤ 30000000000 := by
  obtain ⟨h1, h2, h3⟩ := sum_nat w h.all
  have := h.pos; have := h.l2
  omega
theorem natW_length (w : List Int) : (natW w).length = w.length := by unfold natW; simp
theorem natW_at {w : List Int} {i : Nat} (h : i < w.length) : (natW w)[i]! = (w[i]'h).toNat := by
  unfold natW
  rw [getElem!_pos _ i (by simp; exact h), List.getElem_map]
theorem PartsW.at_ {w : List Int} (h : PartsW w) {i : Nat} (hi : i < w.length) : ((natW w)[i]! : Int) = w[i]'hi ∧ (natW w)[i]! ≤ 1000000000 := by
  have := h.all (w[i]'hi) (List.getElem_mem hi)
  rw [natW_at hi]
  omega
end Go.Proofs.YtipbdpdmefcofaaDoor
