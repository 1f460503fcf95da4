/-
  Arguments of type laws.Rat, opened.
-/
import Derived.Test.YtkkdlgiilhngcaaDoorSignedArg
import Derived.Test.YtkkdlgiilhngcaaDoorLoc
namespace Go.Proofs.YtkkdlgiilhngcaaDoor
open Go.ChangeShapes Go.WideShapes Go.ChangeAt Go.RowKit Go.Joins

theorem Tryd.cellsRat : Tryd.prog.cellsOf 26 = 3 := by kernel_rfl
set_option maxHeartbeats 400000 in
set_option maxRecDepth 100000 in
theorem arg_rat {H : Type} {enc : TypeId × Value → H} {W : World} {base : Nat} {v : Value} {d : DataW H} {p : List MemPlace}
    (hv : Value.okWide Tryd.prog W .any base 26 v) (h : DataW.Trod enc Tryd.prog W 0 (fun _ => true) true 26 v d p) : ∃ x : QI, RdQ W v x ∧ x.1.2.length ≤ maxLen ∧ x.2.length ≤ maxLen := by
  obtain ⟨cs, rfl, hsz⟩ := okWide_struct Tryd.underlying26 hv
  obtain ⟨c0, c1, c2, rfl⟩ := array3 (hsz.trans Tryd.cellsRat)
  obtain ⟨fuel, hf⟩ := h
  obtain ⟨y0, y1, n, hx, _, h0, h1⟩ := trod_struct2 Tryd.underlying26 hf
  have k0 : Tryd.prog.cellsOf 24 = 2 := Tryd.cellsSigned
  have k1 : Tryd.prog.cellsOf 22 = 1 := by kernel_rfl
  have kb : Tryd.prog.cellsOf 4 = 1 := by kernel_rfl
  simp only [Value.cells, k0, k1, List.drop_zero, List.take_succ_cons, List.take_zero, List.drop_succ_cons] at h0 h1
  obtain ⟨z0, z1, m, _, _, g0, g1⟩ := trod_struct2 Tryd.underlying24 h0
  simp only [kb, k1, List.drop_zero, List.take_succ_cons, List.take_zero, List.drop_succ_cons] at g0 g1
  obtain ⟨b, e0, _⟩ := DataW.trod_bool Tryd.underlying4 g0
  obtain ⟨a1, l1, cc1, e1⟩ := slice_form Tryd.underlying22 g1
  obtain ⟨a2, l2, cc2, e2⟩ := slice_form Tryd.underlying22 h1
  simp at e0 e1 e2
  subst e0 e1 e2
  obtain ⟨xs, hr, hl⟩ := cell_ints Tryd.underlying22 Tryd.underlying3 Tryd.cellsInt1 g1
  obtain ⟨ys, hs, hm⟩ := cell_ints Tryd.underlying22 Tryd.underlying3 Tryd.cellsInt1 h1
  exact ⟨((b, xs), ys), ⟨_, _, rfl, hr, hs⟩, hl, hm⟩
end Go.Proofs.YtkkdlgiilhngcaaDoor
