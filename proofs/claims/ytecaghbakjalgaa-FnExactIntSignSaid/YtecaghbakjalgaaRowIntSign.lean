/-
  For all arguments the law FnExactIntSign of chapter 5 returns true; no conditions.
-/
import Derived.Test.YtecaghbakjalgaaSignedArg
import Derived.Test.YtecaghbakjalgaaSignAt
import Derived.Test.YtecaghbakjalgaaSignImpl3
import Derived.Test.YtecaghbakjalgaaSignImpl4
import Derived.Test.YtecaghbakjalgaaSignImplCmp
namespace Go.Proofs.Ytecaghbakjalgaa
open Go.ChangeShapes Go.WideShapes Go.ChangeAt Go.RowKit
open Go.ChangeMaps (open_string shut_string)

set_option maxRecDepth 100000 in
theorem fnExactIntSign_lifted (os : Os) (started : os.Started) (H : Type) (enc : TypeId × Value → H) :
    ReturnsInHanded {} Try.checked os 12 .any (Rows.fnExactIntSignSpec.pre6 enc Try.prog Try.f12 Rows.fnExactIntSignRow.domain false) (Rows.fnExactIntSignSpec.post enc Try.prog Try.f12 false true false false) := by
  refine law_lifted started (by kernel_rfl) Try.func12 (by kernel_rfl) (tb := 4) (by kernel_rfl) Try.underlying4 rfl
    (ChangeSpec.witness6 (enc := enc) (C := Try.checked) false ⟨#[], #[.agg #[.bool false, .slice none 0 0]], []⟩ 8 (by kernel_rfl) (by kernel_rfl) (by kernel_rfl) (by kernel_rfl)) ?_
  intro W base args ds p hval hA _ _
  rw [Try.params12] at hA hval
  obtain ⟨v0, d0, rfl, rfl, h0⟩ := trodAll_one hA
  obtain ⟨a, ra, ma⟩ := arg_signed (hval 0 24 v0 rfl rfl) h0
  unfold maxLen at ma
  exact ⟨rfl, lawIntSign v0 a W (fun hl u W h => implIntSign_any u a W hl h) (by omega) ra⟩

theorem fnExactIntSign_holds : Rows.FnExactIntSignSaid :=
  OpenClaim.holds_of_wide 12 Try.f12 rfl rfl rfl rfl rfl rfl rfl ⟨rfl, rfl, rfl, rfl, rfl⟩ rfl rfl rfl rfl rfl (by kernel_rfl) Try.func12 (by kernel_rfl)
    (of_decide_eq_true (by kernel_rfl)) (by unfold Func.isWrapper; first | (rw [if_pos (by decide +kernel)]; kernel_rfl) | (rw [if_neg (by decide +kernel)]; exact ⟨rfl, rfl⟩))
    (fun os started H enc _ => fnExactIntSign_lifted os started H enc)
end Go.Proofs.Ytecaghbakjalgaa
