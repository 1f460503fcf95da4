/-
  For all arguments the law FnExactIntSum of chapter 5 returns true; no conditions.
-/
import Derived.Test.YtecaghbakjalgaaSignedSArg
import Derived.Test.YtecaghbakjalgaaSumLaw
namespace Go.Proofs.Ytecaghbakjalgaa
open Go.ChangeShapes Go.WideShapes Go.ChangeAt Go.RowKit
open Go.ChangeMaps (open_string shut_string)

set_option maxRecDepth 100000 in
theorem fnExactIntSum_lifted (os : Os) (started : os.Started) (H : Type) (enc : TypeId × Value → H) :
    ReturnsInHanded {} Try.checked os 13 .any (Rows.fnExactIntSumSpec.pre6 enc Try.prog Try.f13 Rows.fnExactIntSumRow.domain false) (Rows.fnExactIntSumSpec.post enc Try.prog Try.f13 false true false false) := by
  refine law_lifted started (by kernel_rfl) Try.func13 (by kernel_rfl) (tb := 4) (by kernel_rfl) Try.underlying4 rfl
    (ChangeSpec.witness6 (enc := enc) (C := Try.checked) false ⟨#[], #[.slice none 0 0], []⟩ 8 (by kernel_rfl) (by kernel_rfl) (by kernel_rfl) (by kernel_rfl)) ?_
  intro W base args ds p hval hA _ _
  rw [Try.params13] at hA hval
  obtain ⟨v0, d0, rfl, rfl, h0⟩ := trodAll_one hA
  obtain ⟨l, rl, ml, nl⟩ := arg_signedL (hval 0 41 v0 rfl rfl) h0
  unfold maxLen at ml nl
  exact ⟨rfl, lawIntSum v0 l W (by omega) (fun x hx => by have := nl x hx; omega) rl⟩

theorem fnExactIntSum_holds : Rows.FnExactIntSumSaid :=
  OpenClaim.holds_of_wide 13 Try.f13 rfl rfl rfl rfl rfl rfl rfl ⟨rfl, rfl, rfl, rfl, rfl⟩ rfl rfl rfl rfl rfl (by kernel_rfl) Try.func13 (by kernel_rfl)
    (of_decide_eq_true (by kernel_rfl)) (by unfold Func.isWrapper; first | (rw [if_pos (by decide +kernel)]; kernel_rfl) | (rw [if_neg (by decide +kernel)]; exact ⟨rfl, rfl⟩))
    (fun os started H enc _ => fnExactIntSum_lifted os started H enc)
end Go.Proofs.Ytecaghbakjalgaa
