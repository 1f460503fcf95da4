/-
  For all arguments the law FnExactIntAdd of chapter 5 returns true; no conditions.
-/
import Derived.Test.YtecaghbakjalgaaSignedArg
import Derived.Test.YtecaghbakjalgaaSignAt
import Derived.Test.YtecaghbakjalgaaSignImpl3
import Derived.Test.YtecaghbakjalgaaSignImpl4
import Derived.Test.YtecaghbakjalgaaSignImplCmp
namespace Go.Proofs.Ytecaghbakjalgaa
open Go.ChangeShapes Go.WideShapes Go.ChangeAt Go.RowKit
open Go.ChangeMaps (open_string shut_string)

set_option maxRecDepth 100000 in
theorem fnExactIntAdd_lifted (os : Os) (started : os.Started) (H : Type) (enc : TypeId × Value → H) :
    ReturnsInHanded {} Try.checked os 8 .any (Rows.fnExactIntAddSpec.pre6 enc Try.prog Try.f8 Rows.fnExactIntAddRow.domain false) (Rows.fnExactIntAddSpec.post enc Try.prog Try.f8 false true false false) := by
  refine law_lifted started (by kernel_rfl) Try.func8 (by kernel_rfl) (tb := 4) (by kernel_rfl) Try.underlying4 rfl
    (ChangeSpec.witness6 (enc := enc) (C := Try.checked) false ⟨#[], #[.agg #[.bool false, .slice none 0 0], .agg #[.bool false, .slice none 0 0]], []⟩ 8 (by kernel_rfl) (by kernel_rfl) (by kernel_rfl) (by kernel_rfl)) ?_
  intro W base args ds p hval hA _ _
  rw [Try.params8] at hA hval
  obtain ⟨v0, v1, d0, d1, p0, p1, rfl, rfl, rfl, h0, h1⟩ := trodAll_two hA
  obtain ⟨a, ra, ma⟩ := arg_signed (hval 0 24 v0 rfl rfl) h0
  unfold maxLen at ma
  obtain ⟨b, rb, mb⟩ := arg_signed (hval 1 24 v1 rfl rfl) h1
  unfold maxLen at mb
  exact ⟨rfl, lawIntAdd v0 v1 a b W (fun hla hlb u v W h k => implIntAdd_any u v a b W hla hlb h k) (by omega) (by omega) ra rb⟩

theorem fnExactIntAdd_holds : Rows.FnExactIntAddSaid :=
  OpenClaim.holds_of_wide 8 Try.f8 rfl rfl rfl rfl rfl rfl rfl ⟨rfl, rfl, rfl, rfl, rfl⟩ rfl rfl rfl rfl rfl (by kernel_rfl) Try.func8 (by kernel_rfl)
    (of_decide_eq_true (by kernel_rfl)) (by unfold Func.isWrapper; first | (rw [if_pos (by decide +kernel)]; kernel_rfl) | (rw [if_neg (by decide +kernel)]; exact ⟨rfl, rfl⟩))
    (fun os started H enc _ => fnExactIntAdd_lifted os started H enc)
end Go.Proofs.Ytecaghbakjalgaa
