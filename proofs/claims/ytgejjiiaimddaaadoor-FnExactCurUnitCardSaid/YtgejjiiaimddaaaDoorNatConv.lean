/-
  What NatOf and NatInt of package spec return.
-/
import Derived.Test.YtgejjiiaimddaaaDoorNatMul
namespace Go.Proofs.YtgejjiiaimddaaaDoor
open Go.RowKit

theorem limbs_pos (n : Nat) (h : n ≠ 0) : limbs n = ((n % 1000000000 : Nat) : Int) :: limbs (n / 1000000000) := by rw [limbs, dif_neg h]
theorem limbs_none : limbs 0 = [] := by rw [limbs, dif_pos rfl]
theorem Row.lit (w : World) (cs : Array Value) (t : TypeId) : Row (w.alloc (.cells cs t)) w.heap.size (w.heap.size + 1) (.slice (some ⟨w.heap.size, 0, none⟩) cs.size cs.size) cs.toList := by
  refine ⟨_, _, rfl, fun j u hu => ⟨_, rfl, Nat.le_refl _, Nat.lt_succ_self _, ?_⟩⟩
  have e1 : (Addr.add ⟨w.heap.size, 0, none⟩ j) = ⟨w.heap.size, j, none⟩ := by
    unfold Addr.add
    split
    · simp_all
    · simp
  rw [e1, World.cell?_alloc_at _ _ _ _ rfl]
  simpa using hu


/-- what NatInt answers -/
def natIntN (a : List Int) : Int × Bool := if natOkB a = true ∧ nval a ≤ 9223372036854775807 then (nval a, true) else (0, false)
def TwoPost (r : Int × Bool) (w : World) (e : Ending) (w' : World) : Prop := e = .returned (.tuple #[.int .i64 r.1, .bool r.2]) ∧ Below w.heap.size w w'
theorem nval_drop_le (a : List Int) (ha : DigN a) (k : Nat) : nval (a.drop k) ≤ nval a := by
  induction k with
  | zero => simp
  | succ k ih =>
    by_cases h : k < a.length
    · have h1 := nval_drop a k h
      have h2 := ha.at_ k h
      have h3 := nval_nonneg (a.drop (k + 1)) (ha.drop _)
      omega
    · rw [List.drop_of_length_le (by omega)]
      exact nval_nonneg a ha
theorem max_nat : nval [854775807, 223372036, 9] = 9223372036854775807 := by simp [nval]
theorem max_dig : DigN [854775807, 223372036, 9] ∧ [854775807, 223372036, (9 : Int)].getLastD 1 ≠ 0 := by
  refine ⟨fun d hd => ?_, by decide⟩
  simp at hd
  omega

end Go.Proofs.YtgejjiiaimddaaaDoor
