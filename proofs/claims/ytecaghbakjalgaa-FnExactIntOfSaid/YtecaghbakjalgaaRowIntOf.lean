/-
  For all arguments the law FnExactIntOf of chapter 5 returns true; no conditions.
-/
import Derived.Test.YtecaghbakjalgaaSignedArg
import Derived.Test.YtecaghbakjalgaaSignAt
import Derived.Test.YtecaghbakjalgaaSignImpl3
import Derived.Test.YtecaghbakjalgaaSignImpl4
import Derived.Test.YtecaghbakjalgaaSignImplCmp
namespace Go.Proofs.Ytecaghbakjalgaa
open Go.ChangeShapes Go.WideShapes Go.ChangeAt Go.RowKit
open Go.ChangeMaps (open_string shut_string)

set_option maxRecDepth 100000 in
theorem fnExactIntOf_lifted (os : Os) (started : os.Started) (H : Type) (enc : TypeId × Value → H) :
    ReturnsInHanded {} Try.checked os 4 .any (Rows.fnExactIntOfSpec.pre6 enc Try.prog Try.f4 Rows.fnExactIntOfRow.domain false) (Rows.fnExactIntOfSpec.post enc Try.prog Try.f4 false true false false) := by
  refine law_lifted started (by kernel_rfl) Try.func4 (by kernel_rfl) (tb := 4) (by kernel_rfl) Try.underlying4 rfl
    (ChangeSpec.witness6 (enc := enc) (C := Try.checked) false ⟨#[], #[.int .i64 0], []⟩ 8 (by kernel_rfl) (by kernel_rfl) (by kernel_rfl) (by kernel_rfl)) ?_
  intro W base args ds p hval hA _ _
  rw [Try.params4] at hA hval
  obtain ⟨v0, d0, rfl, rfl, h0⟩ := trodAll_one hA
  obtain ⟨k, rfl, rfl, rfl, mk⟩ := open_int Try.underlying3 (hval 0 3 v0 rfl rfl) h0
  have ik : -9223372036854775808 ≤ k ∧ k ≤ 9223372036854775807 := by simpa [Lit.wf, IntKind.min, IntKind.max, IntKind.signed, IntKind.bits] using mk
  exact ⟨rfl, lawIntOf k W ik.1 ik.2 (fun W => implIntOf_any k W ik.1 ik.2)⟩

theorem fnExactIntOf_holds : Rows.FnExactIntOfSaid :=
  OpenClaim.holds_of_wide 4 Try.f4 rfl rfl rfl rfl rfl rfl rfl ⟨rfl, rfl, rfl, rfl, rfl⟩ rfl rfl rfl rfl rfl (by kernel_rfl) Try.func4 (by kernel_rfl)
    (of_decide_eq_true (by kernel_rfl)) (by unfold Func.isWrapper; first | (rw [if_pos (by decide +kernel)]; kernel_rfl) | (rw [if_neg (by decide +kernel)]; exact ⟨rfl, rfl⟩))
    (fun os started H enc _ => fnExactIntOf_lifted os started H enc)
end Go.Proofs.Ytecaghbakjalgaa
