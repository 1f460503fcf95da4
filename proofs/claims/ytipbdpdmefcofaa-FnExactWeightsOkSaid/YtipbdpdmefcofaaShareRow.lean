/-
  For all arguments FnExactWeightsOk returns true: whether a slice of weights is one. No conditions.
-/
import Derived.Test.YtipbdpdmefcofaaArgs
import Derived.Test.YtipbdpdmefcofaaLaw
import Derived.Test.YtipbdpdmefcofaaShareW
namespace Go.Proofs.Ytipbdpdmefcofaa
open Go.ChangeShapes Go.WideShapes Go.ChangeAt Go.RowKit
open Go.ChangeMaps (open_string shut_string)

theorem same_belowW {e : Ending} {w w' : World} {v : Value} (h : e = .returned v ∧ w = w') : e = .returned v ∧ Below w.heap.size w w' := by obtain ⟨h1, rfl⟩ := h; exact ⟨h1, Below.refl _ _⟩
theorem decide_reflW {α : Type} [DecidableEq α] (a : α) : decide (a = a) = true := decide_eq_true rfl
set_option maxHeartbeats 400000 in
set_option maxRecDepth 100000 in
theorem lawWeightsOk_small (v : Value) (a : List Int) (w : World) (hl : a.length ≤ 1048576) (hr : Row w 0 w.heap.size v (intsV a)) :
    Calls Try.prog 3 #[v] w fun e w' => e = .returned (.bool true) ∧ Below w.heap.size w w' := by
  have hr0 := hr
  obtain ⟨A, c, rfl, _⟩ := hr
  rw [intsV_length] at hr0 ⊢
  go_enter Try.func3, Try.ntmps3
  go_wp2_with fail
  refine (toIntS_any _ a _ _ _ (Nat.le_refl _) hl hr0).mono ?_
  rintro e w1 ⟨v1, rfl, o1, b1⟩
  go_wp2_with fail
  refine (specWeightsOk_any v1 a _ _ _ (by omega) (Row.of_own o1)).mono ?_
  rintro e w' ⟨rfl, rfl⟩
  have bb2 : Below w.heap.size w w1 := b1
  have r2 := hr0.below bb2 (Nat.le_refl _)
  have z2 := bb2.size
  go_wp2_with fail
  refine (toIntS_any _ a _ _ _ z2 hl r2).mono ?_
  rintro e w3 ⟨v3, rfl, o3, b3⟩
  go_wp2_with fail
  refine ((implWeightsOk_any v3 a _ _ _ (by omega) (Row.of_own o3)).mono fun _ _ h => same_belowW h).mono ?_
  rintro e w4 ⟨rfl, b4⟩
  have bb4 := Below.next (Below.next bb2 b3) b4
  have r4 := hr0.below bb4 (Nat.le_refl _)
  have z4 := bb4.size
  have o34 := own_below o3 b4
  go_wp2_with fail
  refine (toIntS_any _ a _ _ _ z4 hl r4).mono ?_
  rintro e w5 ⟨v5, rfl, o5, b5⟩
  go_wp2_with fail
  refine (eqIntS_any v3 v5 a a _ _ _ _ _ (by omega) (Row.of_own (own_below o34 b5)) (Row.of_own o5)).mono ?_
  rintro e w6 ⟨rfl, q6, rfl⟩
  rw [decide_reflW]
  go_wp2
  go_ret
  exact ⟨rfl, below_drewN (Below.next bb4 b5) q6⟩
theorem lawWeightsOk (v : Value) (a : List Int) (w : World) (hm : a.length ≤ 9223372036854775807) (hr : Row w 0 w.heap.size v (intsV a)) :
    Calls Try.prog 3 #[v] w fun e w' => e = .returned (.bool true) ∧ Below w.heap.size w w' := by
  by_cases hl : a.length ≤ 1048576
  · exact lawWeightsOk_small v a w hl hr
  · obtain ⟨A, c, rfl, _⟩ := hr
    rw [intsV_length]
    go_enter Try.func3, Try.ntmps3
    go_wp2
    go_ret
    exact ⟨rfl, Below.refl _ _⟩
set_option maxRecDepth 100000 in
theorem fnExactWeightsOk_lifted (os : Os) (started : os.Started) (H : Type) (enc : TypeId × Value → H) :
    ReturnsInHanded {} Try.checked os 3 .any (Rows.fnExactWeightsOkSpec.pre6 enc Try.prog Try.f3 Rows.fnExactWeightsOkRow.domain false) (Rows.fnExactWeightsOkSpec.post enc Try.prog Try.f3 false true false false) := by
  refine law_lifted started (by kernel_rfl) Try.func3 (by kernel_rfl) (tb := 4) (by kernel_rfl) Try.underlying4 rfl
    (ChangeSpec.witness6 (enc := enc) (C := Try.checked) false ⟨#[], #[.slice none 0 0], []⟩ 8 (by kernel_rfl) (by kernel_rfl) (by kernel_rfl) (by kernel_rfl)) ?_
  intro W base args ds p hval hA _ _
  rw [Try.params3] at hA hval
  obtain ⟨v0, d0, rfl, rfl, h0⟩ := trodAll_one hA
  obtain ⟨a, hr, hl, _⟩ := arg_ints Try.underlying22 Try.underlying3 (by kernel_rfl) (hval 0 22 v0 rfl rfl) h0
  unfold maxLen at hl
  exact ⟨rfl, lawWeightsOk v0 a W (by omega) hr⟩

theorem fnExactWeightsOk_holds : Rows.FnExactWeightsOkSaid :=
  OpenClaim.holds_of_wide 3 Try.f3 rfl rfl rfl rfl rfl rfl rfl ⟨rfl, rfl, rfl, rfl, rfl⟩ rfl rfl rfl rfl rfl (by kernel_rfl) Try.func3 (by kernel_rfl)
    (of_decide_eq_true (by kernel_rfl)) (by unfold Func.isWrapper; first | (rw [if_pos (by decide +kernel)]; kernel_rfl) | (rw [if_neg (by decide +kernel)]; exact ⟨rfl, rfl⟩))
    (fun os started H enc _ => fnExactWeightsOk_lifted os started H enc)
end Go.Proofs.Ytipbdpdmefcofaa
