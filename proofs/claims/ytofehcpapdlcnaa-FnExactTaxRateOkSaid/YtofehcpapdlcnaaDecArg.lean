/-
  Arguments of type laws.Dec, opened.
-/
import Derived.Test.YtofehcpapdlcnaaSignedArg
import Derived.Test.YtofehcpapdlcnaaDec
namespace Go.Proofs.Ytofehcpapdlcnaa
open Go.ChangeShapes Go.WideShapes Go.ChangeAt Go.RowKit Go.Joins

theorem Try.cellsDec : Try.prog.cellsOf 26 = 3 := by kernel_rfl
set_option maxHeartbeats 400000 in
set_option maxRecDepth 100000 in
theorem arg_dec {H : Type} {enc : TypeId × Value → H} {W : World} {base : Nat} {v : Value} {d : DataW H} {p : List MemPlace}
    (hv : Value.okWide Try.prog W .any base 26 v) (h : DataW.Trod enc Try.prog W 0 (fun _ => true) true 26 v d p) : ∃ x : DI, RdD W v x ∧ x.1.2.length ≤ maxLen ∧ (-9223372036854775808 ≤ x.2 ∧ x.2 ≤ 9223372036854775807) := by
  obtain ⟨cs, rfl, hsz⟩ := okWide_struct Try.underlying26 hv
  obtain ⟨c0, c1, c2, rfl⟩ := array3 (hsz.trans Try.cellsDec)
  obtain ⟨fuel, hf⟩ := h
  obtain ⟨y0, y1, n, hx, _, h0, h1⟩ := trod_struct2 Try.underlying26 hf
  have k0 : Try.prog.cellsOf 24 = 2 := Try.cellsSigned
  have k1 : Try.prog.cellsOf 22 = 1 := by kernel_rfl
  have k2 : Try.prog.cellsOf 3 = 1 := Try.cellsInt1
  have kb : Try.prog.cellsOf 4 = 1 := by kernel_rfl
  simp only [Value.cells, k0, k2, List.drop_zero, List.take_succ_cons, List.take_zero, List.drop_succ_cons] at h0 h1
  obtain ⟨z0, z1, m, _, _, g0, g1⟩ := trod_struct2 Try.underlying24 h0
  simp only [kb, k1, List.drop_zero, List.take_succ_cons, List.take_zero, List.drop_succ_cons] at g0 g1
  obtain ⟨b, e0, _⟩ := DataW.trod_bool Try.underlying4 g0
  obtain ⟨a1, l1, cc1, e1⟩ := slice_form Try.underlying22 g1
  obtain ⟨k, e2, _, hw⟩ := DataW.trod_int Try.underlying3 h1
  simp at e0 e1 e2
  subst e0 e1 e2
  obtain ⟨xs, hr, hl⟩ := cell_ints Try.underlying22 Try.underlying3 Try.cellsInt1 g1
  exact ⟨((b, xs), k), ⟨_, rfl, hr⟩, hl, by simpa [Lit.wf, IntKind.min, IntKind.max, IntKind.signed, IntKind.bits] using hw⟩
end Go.Proofs.Ytofehcpapdlcnaa
