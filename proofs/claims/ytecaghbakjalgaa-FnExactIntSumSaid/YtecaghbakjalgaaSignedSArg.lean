/-
  Arguments of type []laws.Signed, opened.
-/
import Derived.Test.YtecaghbakjalgaaSignedArg
import Derived.Test.YtecaghbakjalgaaSignedS
namespace Go.Proofs.Ytecaghbakjalgaa
open Go.ChangeShapes Go.WideShapes Go.ChangeAt Go.RowKit Go.Joins

theorem cells_two {w : World} {base : Nat} {a : Addr} {cs : List Value} (h : w.cells? base a 2 = some cs) : ∃ c0 c1, cs = [c0, c1] ∧ w.cell? a = some c0 ∧ w.cell? ⟨a.block, a.off + 1, none⟩ = some c1 := by
  unfold World.cells? at h
  split at h
  · rw [show List.range 2 = [0, 1] from rfl] at h
    simp only [List.mapM_cons, List.mapM_nil, Option.bind_eq_bind, Option.pure_def, Option.bind_eq_some_iff, Option.some.injEq] at h
    obtain ⟨c0, h0, r, ⟨c1, h1, s, rfl, rfl⟩, rfl⟩ := h
    exact ⟨c0, c1, rfl, by simpa [Addr.add] using h0, by simpa [Addr.add] using h1⟩
  · cases h
theorem arg_signedL {H : Type} {enc : TypeId × Value → H} {W : World} {base : Nat} {v : Value} {d : DataW H} {p : List MemPlace}
    (hv : Value.okWide Try.prog W .any base 41 v) (h : DataW.Trod enc Try.prog W 0 (fun _ => true) true 41 v d p) : ∃ l : List SI, RdL W v l ∧ l.length ≤ maxLen ∧ ∀ x ∈ l, x.2.length ≤ maxLen := by
  obtain ⟨a0, len0, cap0, rfl⟩ := okWide_slice Try.underlying41 hv
  obtain ⟨fuel, hf⟩ := h
  rcases DataW.trod_slice Try.underlying41 hf with ⟨hcs, _⟩ | ⟨a, len, cap, elems, rest, n, _, hcs, _, _, hl, hm, hel, hcell, _, _⟩
  · have hcs' : Value.slice a0 len0 cap0 = .slice none 0 0 := by simpa [Value.cells] using hcs
    cases hcs'
    exact ⟨[], ⟨_, _, rfl, fun j x hj => by simp at hj⟩, by simp, fun x hx => by cases hx⟩
  · have hcs' : Value.slice a0 len0 cap0 = .slice (some a) len cap := by simpa [Value.cells] using hcs
    obtain ⟨rfl, rfl, rfl⟩ : a0 = some a ∧ len = len0 ∧ cap = cap0 := by cases hcs'; exact ⟨rfl, rfl, rfl⟩
    have each : ∀ i, i < len → ∃ x : SI, ∃ u, a.block < W.heap.size ∧ W.cell? (a.add (i * 2)) = some (.bool x.1) ∧ W.cell? ⟨(a.add (i * 2)).block, (a.add (i * 2)).off + 1, none⟩ = some u ∧ Row W 0 W.heap.size u (intsV x.2) ∧ x.2.length ≤ maxLen := by
      intro i hi
      have hc := hcell i hi
      rw [Try.cellsSigned, List.getElem?_eq_getElem (by omega), Option.bind_eq_some_iff] at hc
      obtain ⟨cs, hcs, hd⟩ := hc
      obtain ⟨c0, c1, rfl, h0, h1⟩ := cells_two hcs
      obtain ⟨y0, y1, m, _, _, hy0, hy1⟩ := trod_struct2 Try.underlying24 hd
      have k0 : Try.prog.cellsOf 4 = 1 := by kernel_rfl
      have k1 : Try.prog.cellsOf 22 = 1 := by kernel_rfl
      simp only [k0, k1, List.drop_zero, List.take_succ_cons, List.take_zero, List.drop_succ_cons] at hy0 hy1
      obtain ⟨b, e0, _⟩ := DataW.trod_bool Try.underlying4 hy0
      obtain ⟨a1, l1, cc, e1⟩ := slice_form Try.underlying22 hy1
      simp at e0 e1
      subst e0 e1
      obtain ⟨xs, hr, hxl⟩ := cell_ints Try.underlying22 Try.underlying3 Try.cellsInt1 hy1
      exact ⟨(b, xs), _, by have := cell_lt h0; rwa [block_add] at this, h0, h1, hr, hxl⟩
    obtain ⟨f, hF⟩ : ∃ f : Nat → SI, ∀ i, i < len → ∃ u, a.block < W.heap.size ∧ W.cell? (a.add (i * 2)) = some (.bool (f i).1) ∧ W.cell? ⟨(a.add (i * 2)).block, (a.add (i * 2)).off + 1, none⟩ = some u ∧ Row W 0 W.heap.size u (intsV (f i).2) ∧ (f i).2.length ≤ maxLen := by
      refine ⟨fun i => if h : i < len then Classical.choose (each i h) else zeroS, fun i hi => ?_⟩
      simp only [dif_pos hi]
      exact Classical.choose_spec (each i hi)
    have hlen : ((List.range len).map f).length = len := by simp
    refine ⟨(List.range len).map f, ⟨some a, cap, by rw [hlen], fun j x hj => ?_⟩, by rw [hlen]; omega, fun x hx => ?_⟩
    · have hjl : j < len := by rw [← hlen]; exact (List.getElem?_eq_some_iff.1 hj).1
      have hx : x = f j := by
        rw [List.getElem?_map, List.getElem?_range hjl] at hj
        simpa using hj.symm
      subst hx
      obtain ⟨u, h1, h2, h3, h4, _⟩ := hF j hjl
      exact ⟨a, u, rfl, h1, h2, h3, h4⟩
    · obtain ⟨i, hi, rfl⟩ := List.mem_map.1 hx
      obtain ⟨_, _, _, _, _, h5⟩ := hF i (by simpa using hi)
      exact h5
end Go.Proofs.Ytecaghbakjalgaa
