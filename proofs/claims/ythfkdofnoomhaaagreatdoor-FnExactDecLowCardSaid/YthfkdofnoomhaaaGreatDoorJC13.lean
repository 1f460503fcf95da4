/-
  Arguments, opened: slices of strings and of ints that came in read as lists.
  Arguments of type laws.Signed, opened.
  Arguments of type laws.Dec, opened.
  Arguments of type laws.Rat, opened.
  What a law needs whose row names one package-level variable, the sentinel impl.errZeroDivisor, and lists it.
  The law FnExactDecDiv of chapter 8, walked: it returns true wherever both packages answer alike.
  The law FnExactDecAt of chapter 8, walked: it returns true wherever both packages answer alike.
  Chapter 8 of package spec: DecAt, DecLow.
  Chapter 8 of package impl: DecAt, DecLow.
-/
import Derived.Lib.SmallJoins
import Derived.ChangeArms
import Derived.Test.YthfkdofnoomhaaaGreatDoorCards
import Derived.Test.YthfkdofnoomhaaaGreatDoorTie
import Derived.Deep.DeepHandedRow
import Derived.Stop.LaidErr
import Derived.Deep.RegionHeld3
import Derived.Deep.DeepCutAuto
import Derived.Test.YthfkdofnoomhaaaGreatDoorJC12
namespace Go.Proofs.YthfkdofnoomhaaaGreatDoor
open Go.ChangeShapes Go.WideShapes Go.ChangeAt Go.RowKit

section
variable {H : Type} {enc : TypeId × Value → H} {P : Program} {W : World} {base : Nat} {t e : TypeId} {v : Value} {d : DataW H} {p : List MemPlace}

theorem arg_strings (ht : P.underlying t = some (.slice e)) (he : P.underlying e = some .string) (hc : P.cellsOf e = 1) (hv : Value.okWide P W .any base t v) (h : DataW.Trod enc P W 0 (fun _ => true) true t v d p) :
    ∃ ss : List ByteArray, Row W 0 W.heap.size v (ss.map Value.string) ∧ ss.length ≤ maxLen ∧ ∀ s ∈ ss, s.size ≤ maxLen := by
  obtain ⟨a0, len0, cap0, rfl⟩ := okWide_slice ht hv
  obtain ⟨fuel, hf⟩ := h
  rcases open_strings ht he hc hf with ⟨hcs, _⟩ | ⟨a, len, cap, ss, hcs, _, hl, hm, hz, _, hcell, hsz⟩
  · have hcs' : Value.slice a0 len0 cap0 = .slice none 0 0 := by simpa [Value.cells] using hcs
    cases hcs'
    exact ⟨[], Row.nil_ _ _, by simp, by simp⟩
  · have hcs' : Value.slice a0 len0 cap0 = .slice (some a) len cap := by simpa [Value.cells] using hcs
    obtain ⟨rfl, rfl, rfl⟩ : a0 = some a ∧ len = len0 ∧ cap = cap0 := by cases hcs'; exact ⟨rfl, rfl, rfl⟩
    have hzl : ss.length = cap := by simpa using hz
    have hlen : (ss.take len).length = len := by rw [List.length_take]; omega
    refine ⟨ss.take len, ⟨some a, cap, by rw [List.length_map, hlen], fun j u hu => ?_⟩, by omega, fun s hs => hsz s (List.mem_of_mem_take hs)⟩
    rw [List.getElem?_map] at hu
    obtain ⟨s, hs, rfl⟩ := Option.map_eq_some_iff.1 hu
    have hj : j < len := by rw [← hlen]; exact (List.getElem?_eq_some_iff.1 hs).1
    have hs' : ss[j]? = some s := by rw [← hs, List.getElem?_take_of_lt hj]
    have hc1 := hcell j (by omega)
    rw [List.getD_eq_getElem?_getD, hs'] at hc1
    exact ⟨a, rfl, Nat.zero_le _, by have := cell_lt hc1; rwa [block_add] at this, hc1⟩

theorem arg_ints (ht : P.underlying t = some (.slice e)) (he : P.underlying e = some (.int .i64)) (hc : P.cellsOf e = 1) (hv : Value.okWide P W .any base t v) (h : DataW.Trod enc P W 0 (fun _ => true) true t v d p) :
    ∃ xs : List Int, Row W 0 W.heap.size v (xs.map (Value.int .i64)) ∧ xs.length ≤ maxLen ∧ ∀ x ∈ xs, -9223372036854775808 ≤ x ∧ x ≤ 9223372036854775807 := by
  obtain ⟨a0, len0, cap0, rfl⟩ := okWide_slice ht hv
  obtain ⟨fuel, hf⟩ := h
  rcases open_ints ht he hc hf with ⟨hcs, _⟩ | ⟨a, len, cap, ss, hcs, _, hl, hm, hz, _, hcell, hsz⟩
  · have hcs' : Value.slice a0 len0 cap0 = .slice none 0 0 := by simpa [Value.cells] using hcs
    cases hcs'
    exact ⟨[], Row.nil_ _ _, by simp, by simp⟩
  · have hcs' : Value.slice a0 len0 cap0 = .slice (some a) len cap := by simpa [Value.cells] using hcs
    obtain ⟨rfl, rfl, rfl⟩ : a0 = some a ∧ len = len0 ∧ cap = cap0 := by cases hcs'; exact ⟨rfl, rfl, rfl⟩
    have hzl : ss.length = cap := by simpa using hz
    have hlen : (ss.take len).length = len := by rw [List.length_take]; omega
    refine ⟨ss.take len, ⟨some a, cap, by rw [List.length_map, hlen], fun j u hu => ?_⟩, by omega, fun s hs => ?_⟩
    · rw [List.getElem?_map] at hu
      obtain ⟨s, hs, rfl⟩ := Option.map_eq_some_iff.1 hu
      have hj : j < len := by rw [← hlen]; exact (List.getElem?_eq_some_iff.1 hs).1
      have hs' : ss[j]? = some s := by rw [← hs, List.getElem?_take_of_lt hj]
      have hc1 := hcell j (by omega)
      rw [List.getD_eq_getElem?_getD, hs'] at hc1
      exact ⟨a, rfl, Nat.zero_le _, by have := cell_lt hc1; rwa [block_add] at this, hc1⟩
    · have := hsz s (List.mem_of_mem_take hs)
      simpa [Lit.wf, IntKind.min, IntKind.max, IntKind.signed, IntKind.bits] using this

theorem arg_bytes (ht : P.underlying t = some (.slice e)) (he : P.underlying e = some (.int .u8)) (hc : P.cellsOf e = 1) (hv : Value.okWide P W .any base t v) (h : DataW.Trod enc P W 0 (fun _ => true) true t v d p) :
    ∃ bs : List Nat, Row W 0 W.heap.size v (bs.map fun b : Nat => Value.int .u8 (b : Int)) ∧ bs.length ≤ maxLen ∧ ∀ b ∈ bs, b < 256 := by
  obtain ⟨a0, len0, cap0, rfl⟩ := okWide_slice ht hv
  obtain ⟨fuel, hf⟩ := h
  rcases open_ints ht he hc hf with ⟨hcs, _⟩ | ⟨a, len, cap, ss, hcs, _, hl, hm, hz, _, hcell, hsz⟩
  · have hcs' : Value.slice a0 len0 cap0 = .slice none 0 0 := by simpa [Value.cells] using hcs
    cases hcs'
    exact ⟨[], Row.nil_ _ _, by simp, by simp⟩
  · have hcs' : Value.slice a0 len0 cap0 = .slice (some a) len cap := by simpa [Value.cells] using hcs
    obtain ⟨rfl, rfl, rfl⟩ : a0 = some a ∧ len = len0 ∧ cap = cap0 := by cases hcs'; exact ⟨rfl, rfl, rfl⟩
    have hzl : ss.length = cap := by simpa using hz
    have hlen : (ss.take len).length = len := by rw [List.length_take]; omega
    have hr : ∀ x ∈ ss.take len, 0 ≤ x ∧ x ≤ 255 := fun x hx => by
      have := hsz x (List.mem_of_mem_take hx)
      simpa [Lit.wf, IntKind.min, IntKind.max, IntKind.signed, IntKind.bits] using this
    refine ⟨(ss.take len).map Int.toNat, ⟨some a, cap, by rw [List.length_map, List.length_map, hlen], fun j u hu => ?_⟩, by rw [List.length_map]; omega, fun s hs => ?_⟩
    · rw [List.getElem?_map, List.getElem?_map] at hu
      obtain ⟨y, hy, rfl⟩ := Option.map_eq_some_iff.1 hu
      obtain ⟨s, hs, rfl⟩ := Option.map_eq_some_iff.1 hy
      have hj : j < len := by rw [← hlen]; exact (List.getElem?_eq_some_iff.1 hs).1
      have hs' : ss[j]? = some s := by rw [← hs, List.getElem?_take_of_lt hj]
      have hc1 := hcell j (by omega)
      rw [List.getD_eq_getElem?_getD, hs'] at hc1
      have h0 := hr s (List.mem_of_getElem? hs)
      have e0 : ((s.toNat : Nat) : Int) = s := by omega
      rw [e0]
      exact ⟨a, rfl, Nat.zero_le _, by have := cell_lt hc1; rwa [block_add] at this, hc1⟩
    · obtain ⟨x, hx, rfl⟩ := List.mem_map.1 hs
      have := hr x hx
      omega
end
end Go.Proofs.YthfkdofnoomhaaaGreatDoor

namespace Go.Proofs.YthfkdofnoomhaaaGreatDoor
open Go.ChangeShapes Go.WideShapes Go.ChangeAt Go.RowKit Go.Joins

section
variable {H : Type} {enc : TypeId × Value → H} {P : Program} {W : World} {base : Nat} {t e : TypeId}

/-- the cell of a slice of ints, wherever it stands -/
theorem cell_ints {fuel : Nat} {a0 : Option Addr} {len0 cap0 : Nat} {x : DataW H × List MemPlace} (ht : P.underlying t = some (.slice e)) (he : P.underlying e = some (.int .i64)) (hc : P.cellsOf e = 1)
    (hf : DataW.trod enc P W 0 (fun _ => true) true fuel t [.slice a0 len0 cap0] = some x) :
    ∃ xs : List Int, Row W 0 W.heap.size (.slice a0 len0 cap0) (xs.map (Value.int .i64)) ∧ xs.length ≤ maxLen := by
  rcases open_ints ht he hc hf with ⟨hcs, _⟩ | ⟨a, len, cap, ss, hcs, _, hl, hm, hz, _, hcell, hsz⟩
  · have hcs' : Value.slice a0 len0 cap0 = .slice none 0 0 := by simpa using hcs
    cases hcs'
    exact ⟨[], Row.nil_ _ _, by simp⟩
  · have hcs' : Value.slice a0 len0 cap0 = .slice (some a) len cap := by simpa using hcs
    obtain ⟨rfl, rfl, rfl⟩ : a0 = some a ∧ len = len0 ∧ cap = cap0 := by cases hcs'; exact ⟨rfl, rfl, rfl⟩
    have hzl : ss.length = cap := by simpa using hz
    have hlen : (ss.take len).length = len := by rw [List.length_take]; omega
    refine ⟨ss.take len, ⟨some a, cap, by rw [List.length_map, hlen], fun j u hu => ?_⟩, by omega⟩
    rw [List.getElem?_map] at hu
    obtain ⟨s, hs, rfl⟩ := Option.map_eq_some_iff.1 hu
    have hj : j < len := by rw [← hlen]; exact (List.getElem?_eq_some_iff.1 hs).1
    have hs' : ss[j]? = some s := by rw [← hs, List.getElem?_take_of_lt hj]
    have hc1 := hcell j (by omega)
    rw [List.getD_eq_getElem?_getD, hs'] at hc1
    exact ⟨a, rfl, Nat.zero_le _, by have := cell_lt hc1; rwa [block_add] at this, hc1⟩
end

theorem Tryz.cellsSigned : Tryz.prog.cellsOf 24 = 2 := by kernel_rfl
theorem Tryz.cellsInt1 : Tryz.prog.cellsOf 3 = 1 := by kernel_rfl
set_option maxHeartbeats 400000 in
set_option maxRecDepth 100000 in
theorem arg_signed {H : Type} {enc : TypeId × Value → H} {W : World} {base : Nat} {v : Value} {d : DataW H} {p : List MemPlace}
    (hv : Value.okWide Tryz.prog W .any base 24 v) (h : DataW.Trod enc Tryz.prog W 0 (fun _ => true) true 24 v d p) : ∃ x : SI, RdS W v x ∧ x.2.length ≤ maxLen := by
  obtain ⟨c0, c1, y0, y1, m, rfl, rfl, rfl, hy0, hy1⟩ := open_agg2 Tryz.underlying24 (by kernel_rfl) Tryz.cellsSigned hv h
  obtain ⟨b, e0, rfl⟩ := DataW.trod_bool Tryz.underlying4 hy0
  obtain ⟨a, l, c, e1⟩ := slice_form Tryz.underlying22 hy1
  simp at e0 e1
  subst e0 e1
  obtain ⟨xs, hr, hl⟩ := cell_ints Tryz.underlying22 Tryz.underlying3 Tryz.cellsInt1 hy1
  exact ⟨(b, xs), ⟨_, rfl, hr⟩, hl⟩
end Go.Proofs.YthfkdofnoomhaaaGreatDoor

namespace Go.Proofs.YthfkdofnoomhaaaGreatDoor
open Go.ChangeShapes Go.WideShapes Go.ChangeAt Go.RowKit Go.Joins

theorem Tryz.cellsDec : Tryz.prog.cellsOf 42 = 3 := by kernel_rfl
set_option maxHeartbeats 400000 in
set_option maxRecDepth 100000 in
theorem arg_dec {H : Type} {enc : TypeId × Value → H} {W : World} {base : Nat} {v : Value} {d : DataW H} {p : List MemPlace}
    (hv : Value.okWide Tryz.prog W .any base 42 v) (h : DataW.Trod enc Tryz.prog W 0 (fun _ => true) true 42 v d p) : ∃ x : DI, RdD W v x ∧ x.1.2.length ≤ maxLen ∧ (-9223372036854775808 ≤ x.2 ∧ x.2 ≤ 9223372036854775807) := by
  obtain ⟨cs, rfl, hsz⟩ := okWide_struct Tryz.underlying42 hv
  obtain ⟨c0, c1, c2, rfl⟩ := array3 (hsz.trans Tryz.cellsDec)
  obtain ⟨fuel, hf⟩ := h
  obtain ⟨y0, y1, n, hx, _, h0, h1⟩ := trod_struct2 Tryz.underlying42 hf
  have k0 : Tryz.prog.cellsOf 24 = 2 := Tryz.cellsSigned
  have k1 : Tryz.prog.cellsOf 22 = 1 := by kernel_rfl
  have k2 : Tryz.prog.cellsOf 3 = 1 := Tryz.cellsInt1
  have kb : Tryz.prog.cellsOf 4 = 1 := by kernel_rfl
  simp only [Value.cells, k0, k2, List.drop_zero, List.take_succ_cons, List.take_zero, List.drop_succ_cons] at h0 h1
  obtain ⟨z0, z1, m, _, _, g0, g1⟩ := trod_struct2 Tryz.underlying24 h0
  simp only [kb, k1, List.drop_zero, List.take_succ_cons, List.take_zero, List.drop_succ_cons] at g0 g1
  obtain ⟨b, e0, _⟩ := DataW.trod_bool Tryz.underlying4 g0
  obtain ⟨a1, l1, cc1, e1⟩ := slice_form Tryz.underlying22 g1
  obtain ⟨k, e2, _, hw⟩ := DataW.trod_int Tryz.underlying3 h1
  simp at e0 e1 e2
  subst e0 e1 e2
  obtain ⟨xs, hr, hl⟩ := cell_ints Tryz.underlying22 Tryz.underlying3 Tryz.cellsInt1 g1
  exact ⟨((b, xs), k), ⟨_, rfl, hr⟩, hl, by simpa [Lit.wf, IntKind.min, IntKind.max, IntKind.signed, IntKind.bits] using hw⟩
end Go.Proofs.YthfkdofnoomhaaaGreatDoor

namespace Go.Proofs.YthfkdofnoomhaaaGreatDoor
open Go.ChangeShapes Go.WideShapes Go.ChangeAt Go.RowKit Go.Joins

theorem Tryz.cellsRat : Tryz.prog.cellsOf 26 = 3 := by kernel_rfl
set_option maxHeartbeats 400000 in
set_option maxRecDepth 100000 in
theorem arg_rat {H : Type} {enc : TypeId × Value → H} {W : World} {base : Nat} {v : Value} {d : DataW H} {p : List MemPlace}
    (hv : Value.okWide Tryz.prog W .any base 26 v) (h : DataW.Trod enc Tryz.prog W 0 (fun _ => true) true 26 v d p) : ∃ x : QI, RdQ W v x ∧ x.1.2.length ≤ maxLen ∧ x.2.length ≤ maxLen := by
  obtain ⟨cs, rfl, hsz⟩ := okWide_struct Tryz.underlying26 hv
  obtain ⟨c0, c1, c2, rfl⟩ := array3 (hsz.trans Tryz.cellsRat)
  obtain ⟨fuel, hf⟩ := h
  obtain ⟨y0, y1, n, hx, _, h0, h1⟩ := trod_struct2 Tryz.underlying26 hf
  have k0 : Tryz.prog.cellsOf 24 = 2 := Tryz.cellsSigned
  have k1 : Tryz.prog.cellsOf 22 = 1 := by kernel_rfl
  have kb : Tryz.prog.cellsOf 4 = 1 := by kernel_rfl
  simp only [Value.cells, k0, k1, List.drop_zero, List.take_succ_cons, List.take_zero, List.drop_succ_cons] at h0 h1
  obtain ⟨z0, z1, m, _, _, g0, g1⟩ := trod_struct2 Tryz.underlying24 h0
  simp only [kb, k1, List.drop_zero, List.take_succ_cons, List.take_zero, List.drop_succ_cons] at g0 g1
  obtain ⟨b, e0, _⟩ := DataW.trod_bool Tryz.underlying4 g0
  obtain ⟨a1, l1, cc1, e1⟩ := slice_form Tryz.underlying22 g1
  obtain ⟨a2, l2, cc2, e2⟩ := slice_form Tryz.underlying22 h1
  simp at e0 e1 e2
  subst e0 e1 e2
  obtain ⟨xs, hr, hl⟩ := cell_ints Tryz.underlying22 Tryz.underlying3 Tryz.cellsInt1 g1
  obtain ⟨ys, hs, hm⟩ := cell_ints Tryz.underlying22 Tryz.underlying3 Tryz.cellsInt1 h1
  exact ⟨((b, xs), ys), ⟨_, _, rfl, hr, hs⟩, hl, hm⟩
end Go.Proofs.YthfkdofnoomhaaaGreatDoor

namespace Go.Proofs.YthfkdofnoomhaaaGreatDoor
open Go.ChangeShapes Go.WideShapes Go.ChangeAt Go.RowKit

theorem senNamed : Tryz.prog.globalNamed "loop.example/g00793/impl.errZeroDivisor" = some 0 := by kernel_rfl
theorem senType : (Tryz.prog.globals[0]?).map (·.type) = some 169 := by kernel_rfl
theorem senCells : Tryz.prog.cellsOf 270 = 1 := by kernel_rfl
theorem strCells : Tryz.prog.cellsOf 9 = 1 := by kernel_rfl
theorem senStar : "*" ++ "errors.errorString" = "*errors.errorString" := by decide
theorem senRow (u : TypeId) (h : Tryz.prog.typeName? 3 u = some "*errors.errorString") : u = 248 :=
  typeName_ptr_named (nm := "errors.errorString") (by rw [senStar]; kernel_rfl) (by kernel_rfl) (by decide) u (by rw [senStar]; exact h)
/-- what the sentinel reads as -/
def senText : List UInt8 := [100, 105, 118, 105, 115, 105, 111, 110, 32, 98, 121, 32, 122, 101, 114, 111]
theorem senData : (Rows.laid_loop_example_g00793_impl_errZeroDivisor : DataW Unit) = .iface "*errors.errorString" (.ptr (.agg [.lit (.string senText)])) := by kernel_rfl
/-- the variable's value -/
def SenAt (a : Addr) (w : World) : Prop := w.var? Tryz.prog "loop.example/g00793/impl.errZeroDivisor" = some #[.iface 248 (.pointer (some a))]
theorem SenAt.sen {a : Addr} {w : World} (h : SenAt a w) : Sen w := ⟨a, by simpa using World.var?_cell senNamed h 0⟩
theorem sen_of {r : List (String × DataW Unit)} {W : World} (h : laidMet Tryz.prog (("loop.example/g00793/impl.errZeroDivisor", Rows.laid_loop_example_g00793_impl_errZeroDivisor) :: r) W) : ∃ a, SenAt a W := by
  rw [senData] at h
  obtain ⟨a, s, hv, _⟩ := laid_sentinel h senNamed senType Tryz.underlying169 senRow Tryz.underlying248 Tryz.underlying270 rfl rfl Tryz.underlying9 senCells strCells
  exact ⟨a, hv⟩
theorem SenAt.below {a : Addr} {w w' : World} (h : SenAt a w) (hb : Below w.heap.size w w') : SenAt a w' := by
  obtain ⟨_, hc⟩ := h.sen
  have hl := cell_lt hc
  unfold SenAt World.var? at h ⊢
  rw [senNamed] at h ⊢
  simp only [Option.bind_some] at h ⊢
  rw [hb.block _ hl]
  exact h

/-- the post of a law that names the sentinel -/
theorem law_post1 {H : Type} {enc : TypeId × Value → H} {f : Func} {s : ChangeSpec} {tb : TypeId} {a : Addr} {W W' : World} {args : Array Value} {ds gs : List (DataW H)} {before : List MemPlace}
    (hr : legible Tryz.prog f.params.toList = true) (hty : f.resultTypes = #[tb]) (htb : Tryz.prog.underlying tb = some .bool) (hvars : s.vars = ["loop.example/g00793/impl.errZeroDivisor"])
    (hs : SenAt a W) (hfn : ∀ g, s.fn H (ds ++ [g]) = { results := [.lit (.bool true)], args := ds, vars := [g] })
    (hW : DataW.Whole enc Tryz.prog f.params.toList s.vars false W args.toList ds gs before) (hb : Below W.heap.size W W') :
    s.post enc Tryz.prog f false true false false W args (.bool true) W' := by
  have hW' := hW
  obtain ⟨p, q, hA, hV, rfl, _, _⟩ := hW
  rw [hvars] at hV
  have vr : ∀ {X : World}, SenAt a X → ∀ sp : Nat → Bool, DataW.TrodVars enc Tryz.prog X sp ["loop.example/g00793/impl.errZeroDivisor"] [tok enc (.iface 248 (.pointer (some a)))] [.cell 0 0] :=
    fun x0 sp => vars_read1 enc senNamed senType Tryz.underlying169 x0 trivial sp
  obtain ⟨rfl, rfl⟩ := hV.unique (vr hs _)
  have hlt : ∀ x ∈ p, x.block < W.heap.size := fun x hx => hW'.lt x (by simp [hx])
  refine ⟨ds, _, _, [], p, [.cell 0 0], hW', ?_, ?_, ?_, hb.frame _, fun h => by cases h⟩
  · rw [hfn, hty]
    exact trodAll_mk1 (shut_bool htb _)
  · rw [hfn]
    exact args_below Tryz.laidOut hb hr hA hlt
  · rw [hfn, hvars]
    exact vr (hs.below hb) _

/-- a world for the witness: the settled one, the listed variable holding what its initialiser lays -/
def putSen (cs : Array Value) : Obj → Obj
  | .cells _ t frozen => .cells cs t frozen
  | o => o
noncomputable def low : Nat := (World.holding Tryz.prog default ⟨#[], #[], []⟩).heap.size
noncomputable def senWorld (os : Os) : World :=
  let w0 := World.holding Tryz.prog os ⟨#[.cells #[.string ⟨senText.toArray⟩] 270], #[], []⟩
  { w0 with heap := w0.heap.modify 0 (putSen #[.iface 248 (.pointer (some ⟨low, 0, none⟩))]) }

set_option maxRecDepth 100000 in
/-- from the walk at every argument, the listed variables at hand, to the lifted row -/
theorem law_lifted_sen {H : Type} {enc : TypeId × Value → H} {os : Os} (started : os.Started) {F : Stop.Interp} {f : FuncId} {fn : Func} {s : ChangeSpec} {conds : List PathCond} {tb : TypeId} {laidL : List (String × DataW Unit)}
    (noInit : Tryz.prog.inits.idxOf? f = none) (hfun : Tryz.prog.funcs[f]? = some fn)
    (hr : legible Tryz.prog fn.params.toList = true) (hty : fn.resultTypes = #[tb]) (htb : Tryz.prog.underlying tb = some .bool) (hvars : s.vars = ["loop.example/g00793/impl.errZeroDivisor"])
    (hsen : ∀ W, laidMetH Tryz.prog laidL W → ∃ a, SenAt a W)
    (witness : ∃ (w : World) (tape : Tape) (i : Input), w.os = os ∧ (w.forCall tape i).Shaped Tryz.checked.prog ∧ i.vars = [] ∧ Input.okWide Tryz.checked.prog (w.forCall tape i) .any w.heap.size f i ∧
      (OpenSpec.ofChange s).preRow enc Tryz.checked.prog fn conds false laidL (w.forCall tape i).memory i.args ∧ Assume.holds {} Tryz.checked.prog (lone (Frame.enter Tryz.checked.prog f i.args .normal) [] (w.forCall tape i)))
    (walk : ∀ (W : World) (base : Nat) (args : Array Value) (ds : List (DataW H)) (p : List MemPlace),
      (∀ (j : Nat) t v, fn.params[j]? = some t → args[j]? = some v → Value.okWide Tryz.prog W .any base t v) →
      DataW.TrodAll enc Tryz.prog W 0 (fun _ => true) true fn.params.toList args.toList ds p → (∀ x ∈ p, x.block < W.heap.size) → laidMetH Tryz.prog laidL W → Sen W →
      (∀ g, s.fn H (ds ++ [g]) = { results := [.lit (.bool true)], args := ds, vars := [g] }) ∧ Calls Tryz.prog f args W fun e W' => e = .returned (.bool true) ∧ Below W.heap.size W W') :
    ReturnsInHanded {} Tryz.checked os f .any ((OpenSpec.ofChange s).preRow enc Tryz.prog fn conds false laidL) (((OpenSpec.ofChange s).at F).post enc Tryz.prog fn false true false false) := by
  refine returnsInHanded_of_row (C := Tryz.checked) (s := OpenSpec.ofChange s) Tryz.own started noInit hfun witness ?_
  intro W base args ds gs before hval hW0 _ _ _ hL _ _
  have hW : DataW.Whole enc Tryz.prog fn.params.toList s.vars false W args.toList ds gs before := hW0
  have hW' := hW
  obtain ⟨p, q, hA, hV, rfl, _, _⟩ := hW
  obtain ⟨a, ha⟩ := hsen W hL
  obtain ⟨hfn, hc⟩ := walk W base args ds p hval hA (fun x hx => hW'.lt x (by simp [hx])) hL ha.sen
  refine hc.mono fun e W' ⟨he, hb⟩ => ?_
  subst he
  exact ⟨_, rfl, law_post1 hr hty htb hvars ha hfn hW' hb⟩
end Go.Proofs.YthfkdofnoomhaaaGreatDoor

namespace Go.Proofs.YthfkdofnoomhaaaGreatDoor
open Go.RowKit

set_option maxHeartbeats 4000000 in
set_option maxRecDepth 100000 in
theorem lawDecDiv_walk (va : Value) (vb : Value) (a : DI) (b : DI) (k : Int) (m : Int) (R0 : DI) (R1 : Bool) (w : World)
    (hS : ∀ (ua : Value) (ub : Value) (W : World), OwnD ua a W → OwnD ub b W → Calls Tryz.prog 21 #[ua, ub, .int .i64 k, .int .i64 m] W (PostDb R0 R1 W))
    (hI : ∀ (ua : Value) (ub : Value) (W : World), OwnD ua a W → OwnD ub b W → Sen W → Calls Tryz.prog 23 #[ua, ub, .int .i64 k, .int .i64 m] W (PostDb R0 R1 W))
    (ht0 : Sen w) (hl : szD a + szD b ≤ 1048576) (hlR0 : szD R0 ≤ 1048576) (ra : RdD w va a) (rb : RdD w vb b) :
    Calls Tryz.prog 4 #[va, vb, .int .i64 k, .int .i64 m] w fun e w' => e = .returned (.bool true) ∧ Below w.heap.size w w' := by
  have HS := Lib.hid hS
  have HI := Lib.hid hI
  clear hS hI
  have HT0 := Lib.hid ht0
  clear ht0
  have hsa := szD_nonneg a
  have hsb := szD_nonneg b
  have hsR0 := szD_nonneg R0
  have hza : szD a ≤ 1048576 := by omega
  obtain ⟨Aa, ca, rfl⟩ := rdD_form ra
  have hzb : szD b ≤ 1048576 := by omega
  obtain ⟨Ab, cb, rfl⟩ := rdD_form rb
  have bb0 : Below w.heap.size w ((w.alloc (.cells #[.bool a.1.1, .slice Aa a.1.2.length ca, .int .i64 a.2] 42)).alloc (.cells #[.bool b.1.1, .slice Ab b.1.2.length cb, .int .i64 b.2] 42)) := below_al (below_al (Below.refl _ _) _) _
  have ka := (box_new w #[.bool a.1.1, .slice Aa a.1.2.length ca, .int .i64 a.2] 42).below (below_al (Below.refl _ _) (.cells #[.bool b.1.1, .slice Ab b.1.2.length cb, .int .i64 b.2] 42))
  have kb := (box_new (w.alloc (.cells #[.bool a.1.1, .slice Aa a.1.2.length ca, .int .i64 a.2] 42)) #[.bool b.1.1, .slice Ab b.1.2.length cb, .int .i64 b.2] 42)
  rw [show (w.alloc (.cells #[.bool a.1.1, .slice Aa a.1.2.length ca, .int .i64 a.2] 42)).heap.size = w.heap.size + 1 by simp] at kb
  have RFa : Hid (∀ W, Below w.heap.size w W → RdD W (.agg #[.bool a.1.1, .slice Aa a.1.2.length ca, .int .i64 a.2]) a) := Lib.hid fun W hb => ra.below hb
  have RFb : Hid (∀ W, Below w.heap.size w W → RdD W (.agg #[.bool b.1.1, .slice Ab b.1.2.length cb, .int .i64 b.2]) b) := Lib.hid fun W hb => rb.below hb
  go_enter Tryz.func4, Tryz.ntmps4
  have ka_c0 := ka.here.cell 0 _ rfl
  have ka_c1 := ka.here.cell 1 _ rfl
  have ka_c2 := ka.here.cell 2 _ rfl
  go_wp2_with fail
  clear ka_c0 ka_c1 ka_c2
  refine (szD_cal _ a (1048576) _ (capD_of hza) (by omega) (by omega) (RFa.out _ bb0)).mono ?_
  rintro e w1 ⟨rfl, b1⟩
  rw [leftI_of (by omega)]
  have bb1 := Below.next bb0 b1
  replace ka := ka.below b1
  replace kb := kb.below b1
  have hn : decide (((1048576 : Int) - szD a : Int) < 0) = false := decide_eq_false (by omega)
  have kb_c0 := kb.here.cell 0 _ rfl
  have kb_c1 := kb.here.cell 1 _ rfl
  have kb_c2 := kb.here.cell 2 _ rfl
  go_wp2_with fail
  clear kb_c0 kb_c1 kb_c2
  refine (szD_cal _ b (1048576 - szD a) _ (capD_of hzb) (by omega) (by omega) (RFb.out _ bb1)).mono ?_
  rintro e w2 ⟨rfl, b2⟩
  rw [leftI_of (by omega)]
  have bb2 := Below.next bb1 b2
  replace ka := ka.below b2
  replace kb := kb.below b2
  clear hn
  have hn : decide (((1048576 : Int) - szD a - szD b : Int) < 0) = false := decide_eq_false (by omega)
  have HKa := Lib.hid (ka.lt (w.heap.size) (by simp))
  have HKb := Lib.hid (kb.lt (w.heap.size + 1) (by simp))
  have ka_c0 := ka.here.cell 0 _ rfl
  have ka_c1 := ka.here.cell 1 _ rfl
  have ka_c2 := ka.here.cell 2 _ rfl
  have kb_c0 := kb.here.cell 0 _ rfl
  have kb_c1 := kb.here.cell 1 _ rfl
  have kb_c2 := kb.here.cell 2 _ rfl
  go_upto_region 8 with fail
  go_cut [10, 11] (fun s t1 wx => NewLocV 30 (fun v => OwnD v R0) w2 s wx ∧ t1 = .bool R1)
  case first =>
    have HB0 := Lib.hid (show Below w2.heap.size w2 w2.drew from (Below.refl _ _).drew)
    have KL := Lib.hid (show ∀ W, Below w2.heap.size w2 W → W.cell? ⟨w.heap.size, 0, none⟩ = some (.bool a.1.1) ∧ W.cell? ⟨w.heap.size, 1, none⟩ = some (.slice Aa a.1.2.length ca) ∧ W.cell? ⟨w.heap.size, 2, none⟩ = some (.int .i64 a.2) ∧ W.cell? ⟨w.heap.size + 1, 0, none⟩ = some (.bool b.1.1) ∧ W.cell? ⟨w.heap.size + 1, 1, none⟩ = some (.slice Ab b.1.2.length cb) ∧ W.cell? ⟨w.heap.size + 1, 2, none⟩ = some (.int .i64 b.2) ∧ Hid (Below w2.heap.size w2 W) from
      fun W hb => ⟨(ka.below hb).here.cell 0 _ rfl, (ka.below hb).here.cell 1 _ rfl, (ka.below hb).here.cell 2 _ rfl, (kb.below hb).here.cell 0 _ rfl, (kb.below hb).here.cell 1 _ rfl, (kb.below hb).here.cell 2 _ rfl, Lib.hid hb⟩)
    have BBF := Lib.hid (show ∀ W, Below w2.heap.size w2 W → Below w.heap.size w W from fun W hb => Below.next bb2 hb)
    clear ka_c0 ka_c1 ka_c2 kb_c0 kb_c1 kb_c2
    go_region_held3 (fun W => W.cell? ⟨w.heap.size, 0, none⟩ = some (.bool a.1.1) ∧ W.cell? ⟨w.heap.size, 1, none⟩ = some (.slice Aa a.1.2.length ca) ∧ W.cell? ⟨w.heap.size, 2, none⟩ = some (.int .i64 a.2) ∧ W.cell? ⟨w.heap.size + 1, 0, none⟩ = some (.bool b.1.1) ∧ W.cell? ⟨w.heap.size + 1, 1, none⟩ = some (.slice Ab b.1.2.length cb) ∧ W.cell? ⟨w.heap.size + 1, 2, none⟩ = some (.int .i64 b.2) ∧ Hid (Below w2.heap.size w2 W))
      ((refine KL.out _ ?_; (first | exact HBf.out | exact HBtb.out | exact HBta.out | exact HB0.out | exact below_al HBf.out _ | exact below_al HBtb.out _ | exact below_al HBta.out _ | exact below_al HB0.out _ | exact below_set3 HBf.out (by first | exact HBtb.out.size | exact HBta.out.size | exact HB0.out.size) | fail)))
      (first
        | (go_at_call 22; (have hBB := (‹_ ∧ _ ∧ _ ∧ _ ∧ _ ∧ _ ∧ Hid (Below w2.heap.size w2 _)›).2.2.2.2.2.2); (with_reducible refine (toD_new _ a _ hza (RFa.out _ (BBF.out _ hBB.out))).mono ?_); rintro e wta ⟨ta, Sta, rfl, ota, lta, bta⟩; have HBta := Lib.hid (Below.next hBB.out bta); (try have hbxa : At [w2.heap.size] (BoxAt w2.heap.size #[.bool false, .slice none 0 0, .int .i64 0] 30) wta := At.below (box_new w2.drew _ _) bta); clear hBB)
        | (go_at_call 22; (have hBB := (‹_ ∧ _ ∧ _ ∧ _ ∧ _ ∧ _ ∧ Hid (Below w2.heap.size w2 _)›).2.2.2.2.2.2); (with_reducible refine (toD_new _ b _ hzb (RFb.out _ (BBF.out _ hBB.out))).mono ?_); rintro e wtb ⟨tb, Stb, rfl, otb, ltb, btb⟩; have HBtb := Lib.hid (Below.next hBB.out btb); (have otab := At.below (by first | exact ota | exact At.below ota (below_al (Below.refl _ _) _)) btb); (first | have hbxb := At.below (box_new _ _ _) btb | have hbxb := At.below hbxa btb | skip); clear hBB)
        | (go_at_call 21; (have hBB := (‹_ ∧ _ ∧ _ ∧ _ ∧ _ ∧ _ ∧ Hid (Below w2.heap.size w2 _)›).2.2.2.2.2.2); (with_reducible refine (HS.out _ _ _ (At.here (by first | exact otab | exact At.below otab (below_al (Below.refl _ _) _))) (At.here (by first | exact otb | exact At.below otb (below_al (Below.refl _ _) _)))).mono ?_); rintro e wf ⟨uf, Sf, rfl, of, lf, bf⟩; have HBf := Lib.hid (Below.next hBB.out bf); have HBS := Lib.hid hBB.out.size; (first | have hbxg := At.below_lt (box_new _ _ _) bf | have hbxg := At.below_lt hbxb bf | skip); (try (have hbxf := hbxg.1; have HGB := Lib.hid hbxg.2; clear hbxg)); obtain ⟨Af, cf, rfl⟩ := ownD_form of.here; (try (have cz0 := hbxf.here.cell 0 _ rfl; have cz1 := hbxf.here.cell 1 _ rfl; have cz2 := hbxf.here.cell 2 _ rfl; have fz0 := Lib.frozen_of_heap hbxf.here 0; have fz1 := Lib.frozen_of_heap hbxf.here 1; have fz2 := Lib.frozen_of_heap hbxf.here 2)); clear hBB))
    all_goals (go_wp2_with fail; go_meet; first | exact ⟨newLocV_last of lf HBS.out HBf.out, rfl⟩ | exact ⟨newLocV_early3 hbxf.here of lf (by first | exact HBtb.out.size | exact HBta.out.size | exact HB0.out.size) HGB.out HBf.out, rfl⟩)
  rename World => w3
  clear ka_c0 ka_c1 ka_c2 kb_c0 kb_c1 kb_c2
  obtain ⟨⟨gw0, csw0, Sw0, rfl, kw0, ow0, nw0, lw0, b3⟩, rfl⟩ := hcut
  obtain ⟨Aw0, cw0, ew0⟩ := ownD_form ow0.here
  injection ew0 with ew0
  subst ew0
  have bb3 := Below.next bb2 b3
  replace ka := ka.below b3
  replace kb := kb.below b3
  have ka_c0 := ka.here.cell 0 _ rfl
  have ka_c1 := ka.here.cell 1 _ rfl
  have ka_c2 := ka.here.cell 2 _ rfl
  go_upto_region 9 with fail
  go_cut [12] (fun s wx => NewLocV 30 (fun v => OwnD v a) w3 s wx)
  case first =>
    go_wp2_with fail
    refine (toD_new _ a _ hza (RFa.out _ bb3)).mono ?_
    rintro e wt ⟨ut, St, rfl, ot, lt, bt⟩
    obtain ⟨At, ct, rfl⟩ := ownD_form ot.here
    go_wp2_with fail
    go_meet
    exact newLocV_last ot lt (Nat.le_refl _) bt
  rename World => w4
  clear ka_c0 ka_c1 ka_c2
  obtain ⟨gxa, csxa, Sxa, rfl, kxa, oxa, nxa, lxa, b4⟩ := hcut
  obtain ⟨Axa, cxa, exa⟩ := ownD_form oxa.here
  injection exa with exa
  subst exa
  have bb4 := Below.next bb3 b4
  replace ka := ka.below b4
  replace kb := kb.below b4
  replace kw0 := kw0.below b4
  replace ow0 := ow0.below b4
  have kb_c0 := kb.here.cell 0 _ rfl
  have kb_c1 := kb.here.cell 1 _ rfl
  have kb_c2 := kb.here.cell 2 _ rfl
  go_upto_region 10 with fail
  go_cut [13] (fun s wx => NewLocV 30 (fun v => OwnD v b) w4 s wx)
  case first =>
    go_wp2_with fail
    refine (toD_new _ b _ hzb (RFb.out _ bb4)).mono ?_
    rintro e wt ⟨ut, St, rfl, ot, lt, bt⟩
    obtain ⟨At, ct, rfl⟩ := ownD_form ot.here
    go_wp2_with fail
    go_meet
    exact newLocV_last ot lt (Nat.le_refl _) bt
  rename World => w5
  clear kb_c0 kb_c1 kb_c2
  obtain ⟨gxb, csxb, Sxb, rfl, kxb, oxb, nxb, lxb, b5⟩ := hcut
  obtain ⟨Axb, cxb, exb⟩ := ownD_form oxb.here
  injection exb with exb
  subst exb
  have bb5 := Below.next bb4 b5
  replace ka := ka.below b5
  replace kb := kb.below b5
  replace kw0 := kw0.below b5
  replace ow0 := ow0.below b5
  replace kxa := kxa.below b5
  replace oxa := oxa.below b5
  have kxa_c0 := kxa.here.cell 0 _ rfl
  have kxa_c1 := kxa.here.cell 1 _ rfl
  have kxa_c2 := kxa.here.cell 2 _ rfl
  have kxb_c0 := kxb.here.cell 0 _ rfl
  have kxb_c1 := kxb.here.cell 1 _ rfl
  have kxb_c2 := kxb.here.cell 2 _ rfl
  go_upto_region 11 with fail
  go_cut [14, 15] (fun s t1 wx => NewLocV 30 (fun v => OwnD v R0) w5 s wx ∧ t1 = .bool R1)
  case first =>
    go_wp2_with fail
    refine (HI.out _ _ _ oxa.here oxb.here (HT0.out.below bb5)).mono ?_
    rintro e wf ⟨uf, Sf, rfl, of, lf, bf⟩
    obtain ⟨Af, cf, rfl⟩ := ownD_form of.here
    go_wp2_with fail
    go_meet
    exact ⟨newLocV_last of lf (Nat.le_refl _) bf, rfl⟩
  rename World => w6
  clear kxa_c0 kxa_c1 kxa_c2 kxb_c0 kxb_c1 kxb_c2
  obtain ⟨⟨gg0, csg0, Sg0, rfl, kg0, og0, ng0, lg0, b6⟩, rfl⟩ := hcut
  obtain ⟨Ag0, cg0, eg0⟩ := ownD_form og0.here
  injection eg0 with eg0
  subst eg0
  have bb6 := Below.next bb5 b6
  replace ka := ka.below b6
  replace kb := kb.below b6
  replace kw0 := kw0.below b6
  replace ow0 := ow0.below b6
  replace kxa := kxa.below b6
  replace oxa := oxa.below b6
  replace kxb := kxb.below b6
  replace oxb := oxb.below b6
  have kg0_c0 := kg0.here.cell 0 _ rfl
  have kg0_c1 := kg0.here.cell 1 _ rfl
  have kg0_c2 := kg0.here.cell 2 _ rfl
  have kw0_c0 := kw0.here.cell 0 _ rfl
  have kw0_c1 := kw0.here.cell 1 _ rfl
  have kw0_c2 := kw0.here.cell 2 _ rfl
  go_wp2_with fail
  clear kg0_c0 kg0_c1 kg0_c2 kw0_c0 kw0_c1 kw0_c2
  refine (eqD_cal _ _ R0 R0 _ (capD_of (by omega)) (OwnD.rd og0.here) (OwnD.rd ow0.here)).mono ?_
  rintro e w7 ⟨rfl, b7⟩
  rw [decide_refl]
  have bb7 := Below.next bb6 b7
  replace ka := ka.below b7
  replace kb := kb.below b7
  replace kw0 := kw0.below b7
  replace ow0 := ow0.below b7
  replace kxa := kxa.below b7
  replace oxa := oxa.below b7
  replace kxb := kxb.below b7
  replace oxb := oxb.below b7
  replace kg0 := kg0.below b7
  replace og0 := og0.below b7
  have ka_c0 := ka.here.cell 0 _ rfl
  have ka_c1 := ka.here.cell 1 _ rfl
  have ka_c2 := ka.here.cell 2 _ rfl
  have kxa_c0 := kxa.here.cell 0 _ rfl
  have kxa_c1 := kxa.here.cell 1 _ rfl
  have kxa_c2 := kxa.here.cell 2 _ rfl
  go_wp2_with fail
  have HB0 := Lib.hid (show Below w7.heap.size w7 w7.drew from (Below.refl _ _).drew)
  have KL := Lib.hid (show ∀ W, Below w7.heap.size w7 W → W.cell? ⟨w.heap.size, 0, none⟩ = some (.bool a.1.1) ∧ W.cell? ⟨w.heap.size, 1, none⟩ = some (.slice Aa a.1.2.length ca) ∧ W.cell? ⟨w.heap.size, 2, none⟩ = some (.int .i64 a.2) ∧ W.cell? ⟨gxa, 0, none⟩ = some (.bool a.1.1) ∧ W.cell? ⟨gxa, 1, none⟩ = some (.slice Axa a.1.2.length cxa) ∧ W.cell? ⟨gxa, 2, none⟩ = some (.int .i64 a.2) ∧ Hid (Below w7.heap.size w7 W) from
    fun W hb => ⟨(ka.below hb).here.cell 0 _ rfl, (ka.below hb).here.cell 1 _ rfl, (ka.below hb).here.cell 2 _ rfl, (kxa.below hb).here.cell 0 _ rfl, (kxa.below hb).here.cell 1 _ rfl, (kxa.below hb).here.cell 2 _ rfl, Lib.hid hb⟩)
  have BBF := Lib.hid (show ∀ W, Below w7.heap.size w7 W → Below w.heap.size w W from fun W hb => Below.next bb7 hb)
  have OXF := Lib.hid (show ∀ W, Below w7.heap.size w7 W → OwnD (.agg #[.bool a.1.1, .slice Axa a.1.2.length cxa, .int .i64 a.2]) a W from fun W hb => (oxa.below hb).here)
  clear ka_c0 ka_c1 ka_c2 kxa_c0 kxa_c1 kxa_c2
  go_region_held3 (fun W => W.cell? ⟨w.heap.size, 0, none⟩ = some (.bool a.1.1) ∧ W.cell? ⟨w.heap.size, 1, none⟩ = some (.slice Aa a.1.2.length ca) ∧ W.cell? ⟨w.heap.size, 2, none⟩ = some (.int .i64 a.2) ∧ W.cell? ⟨gxa, 0, none⟩ = some (.bool a.1.1) ∧ W.cell? ⟨gxa, 1, none⟩ = some (.slice Axa a.1.2.length cxa) ∧ W.cell? ⟨gxa, 2, none⟩ = some (.int .i64 a.2) ∧ Hid (Below w7.heap.size w7 W))
    ((refine KL.out _ ?_; (first | exact HBe.out | exact HBt.out | exact HB0.out | fail)))
    (first
      | (go_at_call 22; (have hBB := (‹_ ∧ _ ∧ _ ∧ _ ∧ _ ∧ _ ∧ Hid (Below w7.heap.size w7 _)›).2.2.2.2.2.2); (with_reducible refine (toD_new _ a _ hza (RFa.out _ (BBF.out _ hBB.out))).mono ?_); rintro e wt ⟨t, St, rfl, ot, lt, bt⟩; have HBt := Lib.hid (Below.next hBB.out bt); clear hBB)
      | (go_at_call 15; (have hBB := (‹_ ∧ _ ∧ _ ∧ _ ∧ _ ∧ _ ∧ Hid (Below w7.heap.size w7 _)›).2.2.2.2.2.2); (with_reducible refine (eqD_cal _ _ a a _ (capD_of hza) (OwnD.rd (OXF.out _ hBB.out)) (OwnD.rd ot.here)).mono ?_); rintro e w8 ⟨rfl, be⟩; rw [decide_refl]; have HBe := Lib.hid (Below.next hBB.out be); clear hBB))
  have b8 := HBe.out
  have bb8 := Below.next bb7 b8
  replace ka := ka.below b8
  replace kb := kb.below b8
  replace kw0 := kw0.below b8
  replace ow0 := ow0.below b8
  replace kxa := kxa.below b8
  replace oxa := oxa.below b8
  replace kxb := kxb.below b8
  replace oxb := oxb.below b8
  replace kg0 := kg0.below b8
  replace og0 := og0.below b8
  clear HB0 KL BBF OXF HBt HBe ot lt
  have kb_c0 := kb.here.cell 0 _ rfl
  have kb_c1 := kb.here.cell 1 _ rfl
  have kb_c2 := kb.here.cell 2 _ rfl
  have kxb_c0 := kxb.here.cell 0 _ rfl
  have kxb_c1 := kxb.here.cell 1 _ rfl
  have kxb_c2 := kxb.here.cell 2 _ rfl
  go_wp2_with fail
  have HB0 := Lib.hid (show Below w8.heap.size w8 w8.drew from (Below.refl _ _).drew)
  have KL := Lib.hid (show ∀ W, Below w8.heap.size w8 W → W.cell? ⟨w.heap.size + 1, 0, none⟩ = some (.bool b.1.1) ∧ W.cell? ⟨w.heap.size + 1, 1, none⟩ = some (.slice Ab b.1.2.length cb) ∧ W.cell? ⟨w.heap.size + 1, 2, none⟩ = some (.int .i64 b.2) ∧ W.cell? ⟨gxb, 0, none⟩ = some (.bool b.1.1) ∧ W.cell? ⟨gxb, 1, none⟩ = some (.slice Axb b.1.2.length cxb) ∧ W.cell? ⟨gxb, 2, none⟩ = some (.int .i64 b.2) ∧ Hid (Below w8.heap.size w8 W) from
    fun W hb => ⟨(kb.below hb).here.cell 0 _ rfl, (kb.below hb).here.cell 1 _ rfl, (kb.below hb).here.cell 2 _ rfl, (kxb.below hb).here.cell 0 _ rfl, (kxb.below hb).here.cell 1 _ rfl, (kxb.below hb).here.cell 2 _ rfl, Lib.hid hb⟩)
  have BBF := Lib.hid (show ∀ W, Below w8.heap.size w8 W → Below w.heap.size w W from fun W hb => Below.next bb8 hb)
  have OXF := Lib.hid (show ∀ W, Below w8.heap.size w8 W → OwnD (.agg #[.bool b.1.1, .slice Axb b.1.2.length cxb, .int .i64 b.2]) b W from fun W hb => (oxb.below hb).here)
  clear kb_c0 kb_c1 kb_c2 kxb_c0 kxb_c1 kxb_c2
  go_region_held3 (fun W => W.cell? ⟨w.heap.size + 1, 0, none⟩ = some (.bool b.1.1) ∧ W.cell? ⟨w.heap.size + 1, 1, none⟩ = some (.slice Ab b.1.2.length cb) ∧ W.cell? ⟨w.heap.size + 1, 2, none⟩ = some (.int .i64 b.2) ∧ W.cell? ⟨gxb, 0, none⟩ = some (.bool b.1.1) ∧ W.cell? ⟨gxb, 1, none⟩ = some (.slice Axb b.1.2.length cxb) ∧ W.cell? ⟨gxb, 2, none⟩ = some (.int .i64 b.2) ∧ Hid (Below w8.heap.size w8 W))
    ((refine KL.out _ ?_; (first | exact HBe.out | exact HBt.out | exact HB0.out | fail)))
    (first
      | (go_at_call 22; (have hBB := (‹_ ∧ _ ∧ _ ∧ _ ∧ _ ∧ _ ∧ Hid (Below w8.heap.size w8 _)›).2.2.2.2.2.2); (with_reducible refine (toD_new _ b _ hzb (RFb.out _ (BBF.out _ hBB.out))).mono ?_); rintro e wt ⟨t, St, rfl, ot, lt, bt⟩; have HBt := Lib.hid (Below.next hBB.out bt); clear hBB)
      | (go_at_call 15; (have hBB := (‹_ ∧ _ ∧ _ ∧ _ ∧ _ ∧ _ ∧ Hid (Below w8.heap.size w8 _)›).2.2.2.2.2.2); (with_reducible refine (eqD_cal _ _ b b _ (capD_of hzb) (OwnD.rd (OXF.out _ hBB.out)) (OwnD.rd ot.here)).mono ?_); rintro e w9 ⟨rfl, be⟩; rw [decide_refl]; have HBe := Lib.hid (Below.next hBB.out be); clear hBB))
  have b9 := HBe.out
  have bb9 := Below.next bb8 b9
  replace ka := ka.below b9
  replace kb := kb.below b9
  replace kw0 := kw0.below b9
  replace ow0 := ow0.below b9
  replace kxa := kxa.below b9
  replace oxa := oxa.below b9
  replace kxb := kxb.below b9
  replace oxb := oxb.below b9
  replace kg0 := kg0.below b9
  replace og0 := og0.below b9
  clear HB0 KL BBF OXF HBt HBe ot lt
  have z1 := b1.size
  have z2 := b2.size
  have z3 := b3.size
  have z4 := b4.size
  have z5 := b5.size
  have z6 := b6.size
  have z7 := b7.size
  have z8 := b8.size
  have z9 := b9.size
  have AP_xa_xb := Lib.hid (Within.apart lxa lxb (.inl (by omega)))
  have AP_xa_g0 := Lib.hid (Within.apart lxa lg0 (.inl (by omega)))
  have AP_xb_g0 := Lib.hid (Within.apart lxb lg0 (.inl (by omega)))
  have AP_w0_xa := Lib.hid (Within.apart lw0 lxa (.inl (by omega)))
  have AP_w0_xb := Lib.hid (Within.apart lw0 lxb (.inl (by omega)))
  have AP_w0_g0 := Lib.hid (Within.apart lw0 lg0 (.inl (by omega)))
  have F_xa := Lib.hid (Within.from (B := w.heap.size) lxa (by have := bb2.size; omega))
  have N_xa := Lib.hid nxa
  have KX_a_xa := Lib.hid (show ∀ i ∈ [w.heap.size], i ∉ gxa :: Sxa from fun i hi hm => by have h1 := (lxa i hm).1; have h2 := HKa.out; simp at hi; omega)
  have KX_b_xa := Lib.hid (show ∀ i ∈ [w.heap.size + 1], i ∉ gxa :: Sxa from fun i hi hm => by have h1 := (lxa i hm).1; have h2 := HKb.out; simp at hi; omega)
  have F_xb := Lib.hid (Within.from (B := w.heap.size) lxb (by have := bb2.size; omega))
  have N_xb := Lib.hid nxb
  have KX_a_xb := Lib.hid (show ∀ i ∈ [w.heap.size], i ∉ gxb :: Sxb from fun i hi hm => by have h1 := (lxb i hm).1; have h2 := HKa.out; simp at hi; omega)
  have KX_b_xb := Lib.hid (show ∀ i ∈ [w.heap.size + 1], i ∉ gxb :: Sxb from fun i hi hm => by have h1 := (lxb i hm).1; have h2 := HKb.out; simp at hi; omega)
  have F_g0 := Lib.hid (Within.from (B := w.heap.size) lg0 (by have := bb2.size; omega))
  have N_g0 := Lib.hid ng0
  have KX_a_g0 := Lib.hid (show ∀ i ∈ [w.heap.size], i ∉ gg0 :: Sg0 from fun i hi hm => by have h1 := (lg0 i hm).1; have h2 := HKa.out; simp at hi; omega)
  have KX_b_g0 := Lib.hid (show ∀ i ∈ [w.heap.size + 1], i ∉ gg0 :: Sg0 from fun i hi hm => by have h1 := (lg0 i hm).1; have h2 := HKb.out; simp at hi; omega)
  clear z1 z2 z3 z4 z5 z6 z7 z8 z9
  have kxa_c0 := kxa.here.cell 0 _ rfl
  have kxa_c1 := kxa.here.cell 1 _ rfl
  have kxa_c2 := kxa.here.cell 2 _ rfl
  go_wp2_with fail
  clear kxa_c0 kxa_c1 kxa_c2
  refine (markD_cal _ a _ (1) _ (by omega) (by omega) oxa).mono ?_
  rintro e w10 ⟨rfl, mkxa, c10⟩
  clear oxa
  have bb10 := below_chg bb9 c10 bb9.size (fun i hi => F_xa.out i (List.mem_cons_of_mem _ hi))
  replace ka := ka.chg c10 (fun i hi hm => KX_a_xa.out i hi (List.mem_cons_of_mem _ hm))
  replace kb := kb.chg c10 (fun i hi hm => KX_b_xa.out i hi (List.mem_cons_of_mem _ hm))
  replace kw0 := kw0.chg c10 (fun i hi hm => AP_w0_xa.out i (by simp at hi; subst hi; exact List.mem_cons_self ..) (List.mem_cons_of_mem _ hm))
  replace ow0 := ow0.chg c10 (fun i hi hm => AP_w0_xa.out i (List.mem_cons_of_mem _ hi) (List.mem_cons_of_mem _ hm))
  replace kxa := kxa.chg c10 (fun i hi hm => by simp at hi; subst hi; exact N_xa.out hm)
  replace kxb := kxb.chg c10 (fun i hi hm => (apart_symm AP_xa_xb.out) i (by simp at hi; subst hi; exact List.mem_cons_self ..) (List.mem_cons_of_mem _ hm))
  replace oxb := oxb.chg c10 (fun i hi hm => (apart_symm AP_xa_xb.out) i (List.mem_cons_of_mem _ hi) (List.mem_cons_of_mem _ hm))
  replace kg0 := kg0.chg c10 (fun i hi hm => (apart_symm AP_xa_g0.out) i (by simp at hi; subst hi; exact List.mem_cons_self ..) (List.mem_cons_of_mem _ hm))
  replace og0 := og0.chg c10 (fun i hi hm => (apart_symm AP_xa_g0.out) i (List.mem_cons_of_mem _ hi) (List.mem_cons_of_mem _ hm))
  have kxb_c0 := kxb.here.cell 0 _ rfl
  have kxb_c1 := kxb.here.cell 1 _ rfl
  have kxb_c2 := kxb.here.cell 2 _ rfl
  go_wp2_with fail
  clear kxb_c0 kxb_c1 kxb_c2
  refine (markD_cal _ b _ (1 + szD a) _ (by omega) (by omega) oxb).mono ?_
  rintro e w11 ⟨rfl, mkxb, c11⟩
  clear oxb
  have bb11 := below_chg bb10 c11 bb10.size (fun i hi => F_xb.out i (List.mem_cons_of_mem _ hi))
  replace ka := ka.chg c11 (fun i hi hm => KX_a_xb.out i hi (List.mem_cons_of_mem _ hm))
  replace kb := kb.chg c11 (fun i hi hm => KX_b_xb.out i hi (List.mem_cons_of_mem _ hm))
  replace kw0 := kw0.chg c11 (fun i hi hm => AP_w0_xb.out i (by simp at hi; subst hi; exact List.mem_cons_self ..) (List.mem_cons_of_mem _ hm))
  replace ow0 := ow0.chg c11 (fun i hi hm => AP_w0_xb.out i (List.mem_cons_of_mem _ hi) (List.mem_cons_of_mem _ hm))
  replace kxa := kxa.chg c11 (fun i hi hm => AP_xa_xb.out i (by simp at hi; subst hi; exact List.mem_cons_self ..) (List.mem_cons_of_mem _ hm))
  replace kxb := kxb.chg c11 (fun i hi hm => by simp at hi; subst hi; exact N_xb.out hm)
  replace kg0 := kg0.chg c11 (fun i hi hm => (apart_symm AP_xb_g0.out) i (by simp at hi; subst hi; exact List.mem_cons_self ..) (List.mem_cons_of_mem _ hm))
  replace og0 := og0.chg c11 (fun i hi hm => (apart_symm AP_xb_g0.out) i (List.mem_cons_of_mem _ hi) (List.mem_cons_of_mem _ hm))
  replace mkxa := mkxa.chg c11 (fun i hi hm => AP_xa_xb.out i (List.mem_cons_of_mem _ hi) (List.mem_cons_of_mem _ hm))
  have hk : decide (((1 + szD a + szD b) : Int) < 0) = false := decide_eq_false (by omega)
  have kg0_c0 := kg0.here.cell 0 _ rfl
  have kg0_c1 := kg0.here.cell 1 _ rfl
  have kg0_c2 := kg0.here.cell 2 _ rfl
  have kw0_c0 := kw0.here.cell 0 _ rfl
  have kw0_c1 := kw0.here.cell 1 _ rfl
  have kw0_c2 := kw0.here.cell 2 _ rfl
  go_wp2_with fail
  clear kg0_c0 kg0_c1 kg0_c2 kw0_c0 kw0_c1 kw0_c2
  refine (eqD_cal _ _ R0 R0 _ (capD_of (by omega)) (OwnD.rd og0.here) (OwnD.rd ow0.here)).mono ?_
  rintro e w12 ⟨rfl, b12⟩
  rw [decide_refl]
  have bb12 := Below.next bb11 b12
  replace ka := ka.below b12
  replace kb := kb.below b12
  replace kw0 := kw0.below b12
  replace ow0 := ow0.below b12
  replace kxa := kxa.below b12
  replace kxb := kxb.below b12
  replace kg0 := kg0.below b12
  replace og0 := og0.below b12
  replace mkxa := mkxa.below b12
  replace mkxb := mkxb.below b12
  clear hk
  have kg0_c0 := kg0.here.cell 0 _ rfl
  have kg0_c1 := kg0.here.cell 1 _ rfl
  have kg0_c2 := kg0.here.cell 2 _ rfl
  go_wp2_with fail
  clear kg0_c0 kg0_c1 kg0_c2
  refine (markD_cal _ R0 _ (1) _ (by omega) (by omega) og0).mono ?_
  rintro e w13 ⟨rfl, mkg0, c13⟩
  clear og0
  have bb13 := below_chg bb12 c13 bb12.size (fun i hi => F_g0.out i (List.mem_cons_of_mem _ hi))
  replace ka := ka.chg c13 (fun i hi hm => KX_a_g0.out i hi (List.mem_cons_of_mem _ hm))
  replace kb := kb.chg c13 (fun i hi hm => KX_b_g0.out i hi (List.mem_cons_of_mem _ hm))
  replace kw0 := kw0.chg c13 (fun i hi hm => AP_w0_g0.out i (by simp at hi; subst hi; exact List.mem_cons_self ..) (List.mem_cons_of_mem _ hm))
  replace ow0 := ow0.chg c13 (fun i hi hm => AP_w0_g0.out i (List.mem_cons_of_mem _ hi) (List.mem_cons_of_mem _ hm))
  replace kxa := kxa.chg c13 (fun i hi hm => AP_xa_g0.out i (by simp at hi; subst hi; exact List.mem_cons_self ..) (List.mem_cons_of_mem _ hm))
  replace kxb := kxb.chg c13 (fun i hi hm => AP_xb_g0.out i (by simp at hi; subst hi; exact List.mem_cons_self ..) (List.mem_cons_of_mem _ hm))
  replace kg0 := kg0.chg c13 (fun i hi hm => by simp at hi; subst hi; exact N_g0.out hm)
  replace mkxa := mkxa.chg c13 (fun i hi hm => AP_xa_g0.out i (List.mem_cons_of_mem _ hi) (List.mem_cons_of_mem _ hm))
  replace mkxb := mkxb.chg c13 (fun i hi hm => AP_xb_g0.out i (List.mem_cons_of_mem _ hi) (List.mem_cons_of_mem _ hm))
  have kg0_c0 := kg0.here.cell 0 _ rfl
  have kg0_c1 := kg0.here.cell 1 _ rfl
  have kg0_c2 := kg0.here.cell 2 _ rfl
  go_wp2_with fail
  clear kg0_c0 kg0_c1 kg0_c2
  refine (heldD_cal _ R0 (1) _ (by omega) (by omega) mkg0.here).mono ?_
  rintro e w14 ⟨rfl, b14⟩
  have bb14 := Below.next bb13 b14
  replace ka := ka.below b14
  replace kb := kb.below b14
  replace kw0 := kw0.below b14
  replace ow0 := ow0.below b14
  replace kxa := kxa.below b14
  replace kxb := kxb.below b14
  replace kg0 := kg0.below b14
  replace mkxa := mkxa.below b14
  replace mkxb := mkxb.below b14
  replace mkg0 := mkg0.below b14
  have hq14 : decide ((1 : Int) + szD R0 < 0) = false := decide_eq_false (by omega)
  have ka_c0 := ka.here.cell 0 _ rfl
  have ka_c1 := ka.here.cell 1 _ rfl
  have ka_c2 := ka.here.cell 2 _ rfl
  have kb_c0 := kb.here.cell 0 _ rfl
  have kb_c1 := kb.here.cell 1 _ rfl
  have kb_c2 := kb.here.cell 2 _ rfl
  go_upto_region 31 with fail
  go_cut [19, 20] (fun s t1 wx => NewLocV 30 (fun v => OwnD v R0) w14 s wx ∧ t1 = .bool R1)
  case first =>
    have HB0 := Lib.hid (show Below w14.heap.size w14 w14.drew from (Below.refl _ _).drew)
    have KL := Lib.hid (show ∀ W, Below w14.heap.size w14 W → W.cell? ⟨w.heap.size, 0, none⟩ = some (.bool a.1.1) ∧ W.cell? ⟨w.heap.size, 1, none⟩ = some (.slice Aa a.1.2.length ca) ∧ W.cell? ⟨w.heap.size, 2, none⟩ = some (.int .i64 a.2) ∧ W.cell? ⟨w.heap.size + 1, 0, none⟩ = some (.bool b.1.1) ∧ W.cell? ⟨w.heap.size + 1, 1, none⟩ = some (.slice Ab b.1.2.length cb) ∧ W.cell? ⟨w.heap.size + 1, 2, none⟩ = some (.int .i64 b.2) ∧ Hid (Below w14.heap.size w14 W) from
      fun W hb => ⟨(ka.below hb).here.cell 0 _ rfl, (ka.below hb).here.cell 1 _ rfl, (ka.below hb).here.cell 2 _ rfl, (kb.below hb).here.cell 0 _ rfl, (kb.below hb).here.cell 1 _ rfl, (kb.below hb).here.cell 2 _ rfl, Lib.hid hb⟩)
    have BBF := Lib.hid (show ∀ W, Below w14.heap.size w14 W → Below w.heap.size w W from fun W hb => Below.next bb14 hb)
    clear ka_c0 ka_c1 ka_c2 kb_c0 kb_c1 kb_c2
    go_region_held3 (fun W => W.cell? ⟨w.heap.size, 0, none⟩ = some (.bool a.1.1) ∧ W.cell? ⟨w.heap.size, 1, none⟩ = some (.slice Aa a.1.2.length ca) ∧ W.cell? ⟨w.heap.size, 2, none⟩ = some (.int .i64 a.2) ∧ W.cell? ⟨w.heap.size + 1, 0, none⟩ = some (.bool b.1.1) ∧ W.cell? ⟨w.heap.size + 1, 1, none⟩ = some (.slice Ab b.1.2.length cb) ∧ W.cell? ⟨w.heap.size + 1, 2, none⟩ = some (.int .i64 b.2) ∧ Hid (Below w14.heap.size w14 W))
      ((refine KL.out _ ?_; (first | exact HBf.out | exact HBtb.out | exact HBta.out | exact HB0.out | exact below_al HBf.out _ | exact below_al HBtb.out _ | exact below_al HBta.out _ | exact below_al HB0.out _ | exact below_set3 HBf.out (by first | exact HBtb.out.size | exact HBta.out.size | exact HB0.out.size) | fail)))
      (first
        | (go_at_call 22; (have hBB := (‹_ ∧ _ ∧ _ ∧ _ ∧ _ ∧ _ ∧ Hid (Below w14.heap.size w14 _)›).2.2.2.2.2.2); (with_reducible refine (toD_new _ a _ hza (RFa.out _ (BBF.out _ hBB.out))).mono ?_); rintro e wta ⟨ta, Sta, rfl, ota, lta, bta⟩; have HBta := Lib.hid (Below.next hBB.out bta); (try have hbxa : At [w14.heap.size] (BoxAt w14.heap.size #[.bool false, .slice none 0 0, .int .i64 0] 30) wta := At.below (box_new w14.drew _ _) bta); clear hBB)
        | (go_at_call 22; (have hBB := (‹_ ∧ _ ∧ _ ∧ _ ∧ _ ∧ _ ∧ Hid (Below w14.heap.size w14 _)›).2.2.2.2.2.2); (with_reducible refine (toD_new _ b _ hzb (RFb.out _ (BBF.out _ hBB.out))).mono ?_); rintro e wtb ⟨tb, Stb, rfl, otb, ltb, btb⟩; have HBtb := Lib.hid (Below.next hBB.out btb); (have otab := At.below (by first | exact ota | exact At.below ota (below_al (Below.refl _ _) _)) btb); (first | have hbxb := At.below (box_new _ _ _) btb | have hbxb := At.below hbxa btb | skip); clear hBB)
        | (go_at_call 23; (have hBB := (‹_ ∧ _ ∧ _ ∧ _ ∧ _ ∧ _ ∧ Hid (Below w14.heap.size w14 _)›).2.2.2.2.2.2); (with_reducible refine (HI.out _ _ _ (At.here (by first | exact otab | exact At.below otab (below_al (Below.refl _ _) _))) (At.here (by first | exact otb | exact At.below otb (below_al (Below.refl _ _) _))) (HT0.out.below (BBF.out _ hBB.out))).mono ?_); rintro e wf ⟨uf, Sf, rfl, of, lf, bf⟩; have HBf := Lib.hid (Below.next hBB.out bf); have HBS := Lib.hid hBB.out.size; (first | have hbxg := At.below_lt (box_new _ _ _) bf | have hbxg := At.below_lt hbxb bf | skip); (try (have hbxf := hbxg.1; have HGB := Lib.hid hbxg.2; clear hbxg)); obtain ⟨Af, cf, rfl⟩ := ownD_form of.here; (try (have cz0 := hbxf.here.cell 0 _ rfl; have cz1 := hbxf.here.cell 1 _ rfl; have cz2 := hbxf.here.cell 2 _ rfl; have fz0 := Lib.frozen_of_heap hbxf.here 0; have fz1 := Lib.frozen_of_heap hbxf.here 1; have fz2 := Lib.frozen_of_heap hbxf.here 2)); clear hBB))
    all_goals (go_wp2_with fail; go_meet; first | exact ⟨newLocV_last of lf HBS.out HBf.out, rfl⟩ | exact ⟨newLocV_early3 hbxf.here of lf (by first | exact HBtb.out.size | exact HBta.out.size | exact HB0.out.size) HGB.out HBf.out, rfl⟩)
  rename World => w15
  clear ka_c0 ka_c1 ka_c2 kb_c0 kb_c1 kb_c2
  obtain ⟨⟨gh0, csh0, Sh0, rfl, kh0, oh0, nh0, lh0, b15⟩, rfl⟩ := hcut
  obtain ⟨Ah0, ch0, eh0⟩ := ownD_form oh0.here
  injection eh0 with eh0
  subst eh0
  have bb15 := Below.next bb14 b15
  replace ka := ka.below b15
  replace kb := kb.below b15
  replace kw0 := kw0.below b15
  replace ow0 := ow0.below b15
  replace kxa := kxa.below b15
  replace kxb := kxb.below b15
  replace kg0 := kg0.below b15
  replace mkxa := mkxa.below b15
  replace mkxb := mkxb.below b15
  replace mkg0 := mkg0.below b15
  have kh0_c0 := kh0.here.cell 0 _ rfl
  have kh0_c1 := kh0.here.cell 1 _ rfl
  have kh0_c2 := kh0.here.cell 2 _ rfl
  have kw0_c0 := kw0.here.cell 0 _ rfl
  have kw0_c1 := kw0.here.cell 1 _ rfl
  have kw0_c2 := kw0.here.cell 2 _ rfl
  go_wp2_with fail
  clear kh0_c0 kh0_c1 kh0_c2 kw0_c0 kw0_c1 kw0_c2
  refine (eqD_cal _ _ R0 R0 _ (capD_of (by omega)) (OwnD.rd oh0.here) (OwnD.rd ow0.here)).mono ?_
  rintro e w16 ⟨rfl, b16⟩
  rw [decide_refl]
  have bb16 := Below.next bb15 b16
  replace ka := ka.below b16
  replace kb := kb.below b16
  replace kw0 := kw0.below b16
  replace ow0 := ow0.below b16
  replace kxa := kxa.below b16
  replace kxb := kxb.below b16
  replace kg0 := kg0.below b16
  replace mkxa := mkxa.below b16
  replace mkxb := mkxb.below b16
  replace mkg0 := mkg0.below b16
  replace kh0 := kh0.below b16
  replace oh0 := oh0.below b16
  have kg0_c0 := kg0.here.cell 0 _ rfl
  have kg0_c1 := kg0.here.cell 1 _ rfl
  have kg0_c2 := kg0.here.cell 2 _ rfl
  go_wp2_with fail
  clear kg0_c0 kg0_c1 kg0_c2
  refine (heldD_cal _ R0 (1) _ (by omega) (by omega) mkg0.here).mono ?_
  rintro e w17 ⟨rfl, b17⟩
  have bb17 := Below.next bb16 b17
  replace ka := ka.below b17
  replace kb := kb.below b17
  replace kw0 := kw0.below b17
  replace ow0 := ow0.below b17
  replace kxa := kxa.below b17
  replace kxb := kxb.below b17
  replace kg0 := kg0.below b17
  replace mkxa := mkxa.below b17
  replace mkxb := mkxb.below b17
  replace mkg0 := mkg0.below b17
  replace kh0 := kh0.below b17
  replace oh0 := oh0.below b17
  have hq17 : decide ((1 : Int) + szD R0 < 0) = false := decide_eq_false (by omega)
  go_wp2
  go_ret
  exact ⟨rfl, bb17⟩
end Go.Proofs.YthfkdofnoomhaaaGreatDoor

namespace Go.Proofs.YthfkdofnoomhaaaGreatDoor
open Go.RowKit

set_option maxHeartbeats 4000000 in
set_option maxRecDepth 100000 in
theorem lawDecAt_walk (va : Value) (a : DI) (k : Int) (R0 : DI) (R1 : Bool) (w : World)
    (hS : ∀ (ua : Value) (W : World), OwnD ua a W → Calls Tryz.prog 24 #[ua, .int .i64 k] W (PostDb R0 R1 W))
    (hI : ∀ (ua : Value) (W : World), OwnD ua a W → Sen W → Calls Tryz.prog 25 #[ua, .int .i64 k] W (PostDb R0 R1 W))
    (ht0 : Sen w) (hl : szD a ≤ 1048576) (hlR0 : szD R0 ≤ 1048576) (ra : RdD w va a) :
    Calls Tryz.prog 5 #[va, .int .i64 k] w fun e w' => e = .returned (.bool true) ∧ Below w.heap.size w w' := by
  have HS := Lib.hid hS
  have HI := Lib.hid hI
  clear hS hI
  have HT0 := Lib.hid ht0
  clear ht0
  have hsa := szD_nonneg a
  have hsR0 := szD_nonneg R0
  have hza : szD a ≤ 1048576 := by omega
  obtain ⟨Aa, ca, rfl⟩ := rdD_form ra
  have bb0 : Below w.heap.size w (w.alloc (.cells #[.bool a.1.1, .slice Aa a.1.2.length ca, .int .i64 a.2] 42)) := below_al (Below.refl _ _) _
  have ka := (box_new w #[.bool a.1.1, .slice Aa a.1.2.length ca, .int .i64 a.2] 42)
  have RFa : Hid (∀ W, Below w.heap.size w W → RdD W (.agg #[.bool a.1.1, .slice Aa a.1.2.length ca, .int .i64 a.2]) a) := Lib.hid fun W hb => ra.below hb
  go_enter Tryz.func5, Tryz.ntmps5
  have ka_c0 := ka.here.cell 0 _ rfl
  have ka_c1 := ka.here.cell 1 _ rfl
  have ka_c2 := ka.here.cell 2 _ rfl
  go_wp2_with fail
  clear ka_c0 ka_c1 ka_c2
  refine (szD_cal _ a (1048576) _ (capD_of hza) (by omega) (by omega) (RFa.out _ bb0)).mono ?_
  rintro e w1 ⟨rfl, b1⟩
  rw [leftI_of (by omega)]
  have bb1 := Below.next bb0 b1
  replace ka := ka.below b1
  have hn : decide (((1048576 : Int) - szD a : Int) < 0) = false := decide_eq_false (by omega)
  have HKa := Lib.hid (ka.lt (w.heap.size) (by simp))
  have ka_c0 := ka.here.cell 0 _ rfl
  have ka_c1 := ka.here.cell 1 _ rfl
  have ka_c2 := ka.here.cell 2 _ rfl
  go_upto_region 5 with fail
  go_cut [6, 7] (fun s t1 wx => NewLocV 30 (fun v => OwnD v R0) w1 s wx ∧ t1 = .bool R1)
  case first =>
    go_wp2_with fail
    refine (toD_new _ a _ hza (RFa.out _ bb1)).mono ?_
    rintro e wt ⟨ut, St, rfl, ot, lt, bt⟩
    obtain ⟨At, ct, rfl⟩ := ownD_form ot.here
    go_wp2_with fail
    refine (HS.out _ _ ot.here).mono ?_
    rintro e wf ⟨uf, Sf, rfl, of, lf, bf⟩
    obtain ⟨Af, cf, rfl⟩ := ownD_form of.here
    have bwf := Below.next bt bf
    go_wp2_with fail
    go_meet
    exact ⟨newLocV_last of lf bt.size bwf, rfl⟩
  rename World => w2
  clear ka_c0 ka_c1 ka_c2
  obtain ⟨⟨gw0, csw0, Sw0, rfl, kw0, ow0, nw0, lw0, b2⟩, rfl⟩ := hcut
  obtain ⟨Aw0, cw0, ew0⟩ := ownD_form ow0.here
  injection ew0 with ew0
  subst ew0
  have bb2 := Below.next bb1 b2
  replace ka := ka.below b2
  have ka_c0 := ka.here.cell 0 _ rfl
  have ka_c1 := ka.here.cell 1 _ rfl
  have ka_c2 := ka.here.cell 2 _ rfl
  go_upto_region 6 with fail
  go_cut [8] (fun s wx => NewLocV 30 (fun v => OwnD v a) w2 s wx)
  case first =>
    go_wp2_with fail
    refine (toD_new _ a _ hza (RFa.out _ bb2)).mono ?_
    rintro e wt ⟨ut, St, rfl, ot, lt, bt⟩
    obtain ⟨At, ct, rfl⟩ := ownD_form ot.here
    go_wp2_with fail
    go_meet
    exact newLocV_last ot lt (Nat.le_refl _) bt
  rename World => w3
  clear ka_c0 ka_c1 ka_c2
  obtain ⟨gxa, csxa, Sxa, rfl, kxa, oxa, nxa, lxa, b3⟩ := hcut
  obtain ⟨Axa, cxa, exa⟩ := ownD_form oxa.here
  injection exa with exa
  subst exa
  have bb3 := Below.next bb2 b3
  replace ka := ka.below b3
  replace kw0 := kw0.below b3
  replace ow0 := ow0.below b3
  have kxa_c0 := kxa.here.cell 0 _ rfl
  have kxa_c1 := kxa.here.cell 1 _ rfl
  have kxa_c2 := kxa.here.cell 2 _ rfl
  go_upto_region 7 with fail
  go_cut [9, 10] (fun s t1 wx => NewLocV 30 (fun v => OwnD v R0) w3 s wx ∧ t1 = .bool R1)
  case first =>
    go_wp2_with fail
    refine (HI.out _ _ oxa.here (HT0.out.below bb3)).mono ?_
    rintro e wf ⟨uf, Sf, rfl, of, lf, bf⟩
    obtain ⟨Af, cf, rfl⟩ := ownD_form of.here
    go_wp2_with fail
    go_meet
    exact ⟨newLocV_last of lf (Nat.le_refl _) bf, rfl⟩
  rename World => w4
  clear kxa_c0 kxa_c1 kxa_c2
  obtain ⟨⟨gg0, csg0, Sg0, rfl, kg0, og0, ng0, lg0, b4⟩, rfl⟩ := hcut
  obtain ⟨Ag0, cg0, eg0⟩ := ownD_form og0.here
  injection eg0 with eg0
  subst eg0
  have bb4 := Below.next bb3 b4
  replace ka := ka.below b4
  replace kw0 := kw0.below b4
  replace ow0 := ow0.below b4
  replace kxa := kxa.below b4
  replace oxa := oxa.below b4
  have kg0_c0 := kg0.here.cell 0 _ rfl
  have kg0_c1 := kg0.here.cell 1 _ rfl
  have kg0_c2 := kg0.here.cell 2 _ rfl
  have kw0_c0 := kw0.here.cell 0 _ rfl
  have kw0_c1 := kw0.here.cell 1 _ rfl
  have kw0_c2 := kw0.here.cell 2 _ rfl
  go_wp2_with fail
  clear kg0_c0 kg0_c1 kg0_c2 kw0_c0 kw0_c1 kw0_c2
  refine (eqD_cal _ _ R0 R0 _ (capD_of (by omega)) (OwnD.rd og0.here) (OwnD.rd ow0.here)).mono ?_
  rintro e w5 ⟨rfl, b5⟩
  rw [decide_refl]
  have bb5 := Below.next bb4 b5
  replace ka := ka.below b5
  replace kw0 := kw0.below b5
  replace ow0 := ow0.below b5
  replace kxa := kxa.below b5
  replace oxa := oxa.below b5
  replace kg0 := kg0.below b5
  replace og0 := og0.below b5
  have ka_c0 := ka.here.cell 0 _ rfl
  have ka_c1 := ka.here.cell 1 _ rfl
  have ka_c2 := ka.here.cell 2 _ rfl
  have kxa_c0 := kxa.here.cell 0 _ rfl
  have kxa_c1 := kxa.here.cell 1 _ rfl
  have kxa_c2 := kxa.here.cell 2 _ rfl
  go_wp2_with fail
  have HB0 := Lib.hid (show Below w5.heap.size w5 w5.drew from (Below.refl _ _).drew)
  have KL := Lib.hid (show ∀ W, Below w5.heap.size w5 W → W.cell? ⟨w.heap.size, 0, none⟩ = some (.bool a.1.1) ∧ W.cell? ⟨w.heap.size, 1, none⟩ = some (.slice Aa a.1.2.length ca) ∧ W.cell? ⟨w.heap.size, 2, none⟩ = some (.int .i64 a.2) ∧ W.cell? ⟨gxa, 0, none⟩ = some (.bool a.1.1) ∧ W.cell? ⟨gxa, 1, none⟩ = some (.slice Axa a.1.2.length cxa) ∧ W.cell? ⟨gxa, 2, none⟩ = some (.int .i64 a.2) ∧ Hid (Below w5.heap.size w5 W) from
    fun W hb => ⟨(ka.below hb).here.cell 0 _ rfl, (ka.below hb).here.cell 1 _ rfl, (ka.below hb).here.cell 2 _ rfl, (kxa.below hb).here.cell 0 _ rfl, (kxa.below hb).here.cell 1 _ rfl, (kxa.below hb).here.cell 2 _ rfl, Lib.hid hb⟩)
  have BBF := Lib.hid (show ∀ W, Below w5.heap.size w5 W → Below w.heap.size w W from fun W hb => Below.next bb5 hb)
  have OXF := Lib.hid (show ∀ W, Below w5.heap.size w5 W → OwnD (.agg #[.bool a.1.1, .slice Axa a.1.2.length cxa, .int .i64 a.2]) a W from fun W hb => (oxa.below hb).here)
  clear ka_c0 ka_c1 ka_c2 kxa_c0 kxa_c1 kxa_c2
  go_region_held3 (fun W => W.cell? ⟨w.heap.size, 0, none⟩ = some (.bool a.1.1) ∧ W.cell? ⟨w.heap.size, 1, none⟩ = some (.slice Aa a.1.2.length ca) ∧ W.cell? ⟨w.heap.size, 2, none⟩ = some (.int .i64 a.2) ∧ W.cell? ⟨gxa, 0, none⟩ = some (.bool a.1.1) ∧ W.cell? ⟨gxa, 1, none⟩ = some (.slice Axa a.1.2.length cxa) ∧ W.cell? ⟨gxa, 2, none⟩ = some (.int .i64 a.2) ∧ Hid (Below w5.heap.size w5 W))
    ((refine KL.out _ ?_; (first | exact HBe.out | exact HBt.out | exact HB0.out | fail)))
    (first
      | (go_at_call 22; (have hBB := (‹_ ∧ _ ∧ _ ∧ _ ∧ _ ∧ _ ∧ Hid (Below w5.heap.size w5 _)›).2.2.2.2.2.2); (with_reducible refine (toD_new _ a _ hza (RFa.out _ (BBF.out _ hBB.out))).mono ?_); rintro e wt ⟨t, St, rfl, ot, lt, bt⟩; have HBt := Lib.hid (Below.next hBB.out bt); clear hBB)
      | (go_at_call 15; (have hBB := (‹_ ∧ _ ∧ _ ∧ _ ∧ _ ∧ _ ∧ Hid (Below w5.heap.size w5 _)›).2.2.2.2.2.2); (with_reducible refine (eqD_cal _ _ a a _ (capD_of hza) (OwnD.rd (OXF.out _ hBB.out)) (OwnD.rd ot.here)).mono ?_); rintro e w6 ⟨rfl, be⟩; rw [decide_refl]; have HBe := Lib.hid (Below.next hBB.out be); clear hBB))
  have b6 := HBe.out
  have bb6 := Below.next bb5 b6
  replace ka := ka.below b6
  replace kw0 := kw0.below b6
  replace ow0 := ow0.below b6
  replace kxa := kxa.below b6
  replace oxa := oxa.below b6
  replace kg0 := kg0.below b6
  replace og0 := og0.below b6
  clear HB0 KL BBF OXF HBt HBe ot lt
  have z1 := b1.size
  have z2 := b2.size
  have z3 := b3.size
  have z4 := b4.size
  have z5 := b5.size
  have z6 := b6.size
  have AP_xa_g0 := Lib.hid (Within.apart lxa lg0 (.inl (by omega)))
  have AP_w0_xa := Lib.hid (Within.apart lw0 lxa (.inl (by omega)))
  have AP_w0_g0 := Lib.hid (Within.apart lw0 lg0 (.inl (by omega)))
  have F_xa := Lib.hid (Within.from (B := w.heap.size) lxa (by have := bb1.size; omega))
  have N_xa := Lib.hid nxa
  have KX_a_xa := Lib.hid (show ∀ i ∈ [w.heap.size], i ∉ gxa :: Sxa from fun i hi hm => by have h1 := (lxa i hm).1; have h2 := HKa.out; simp at hi; omega)
  have F_g0 := Lib.hid (Within.from (B := w.heap.size) lg0 (by have := bb1.size; omega))
  have N_g0 := Lib.hid ng0
  have KX_a_g0 := Lib.hid (show ∀ i ∈ [w.heap.size], i ∉ gg0 :: Sg0 from fun i hi hm => by have h1 := (lg0 i hm).1; have h2 := HKa.out; simp at hi; omega)
  clear z1 z2 z3 z4 z5 z6
  have kxa_c0 := kxa.here.cell 0 _ rfl
  have kxa_c1 := kxa.here.cell 1 _ rfl
  have kxa_c2 := kxa.here.cell 2 _ rfl
  go_wp2_with fail
  clear kxa_c0 kxa_c1 kxa_c2
  refine (markD_cal _ a _ (1) _ (by omega) (by omega) oxa).mono ?_
  rintro e w7 ⟨rfl, mkxa, c7⟩
  clear oxa
  have bb7 := below_chg bb6 c7 bb6.size (fun i hi => F_xa.out i (List.mem_cons_of_mem _ hi))
  replace ka := ka.chg c7 (fun i hi hm => KX_a_xa.out i hi (List.mem_cons_of_mem _ hm))
  replace kw0 := kw0.chg c7 (fun i hi hm => AP_w0_xa.out i (by simp at hi; subst hi; exact List.mem_cons_self ..) (List.mem_cons_of_mem _ hm))
  replace ow0 := ow0.chg c7 (fun i hi hm => AP_w0_xa.out i (List.mem_cons_of_mem _ hi) (List.mem_cons_of_mem _ hm))
  replace kxa := kxa.chg c7 (fun i hi hm => by simp at hi; subst hi; exact N_xa.out hm)
  replace kg0 := kg0.chg c7 (fun i hi hm => (apart_symm AP_xa_g0.out) i (by simp at hi; subst hi; exact List.mem_cons_self ..) (List.mem_cons_of_mem _ hm))
  replace og0 := og0.chg c7 (fun i hi hm => (apart_symm AP_xa_g0.out) i (List.mem_cons_of_mem _ hi) (List.mem_cons_of_mem _ hm))
  have hk : decide (((1 + szD a) : Int) < 0) = false := decide_eq_false (by omega)
  have kg0_c0 := kg0.here.cell 0 _ rfl
  have kg0_c1 := kg0.here.cell 1 _ rfl
  have kg0_c2 := kg0.here.cell 2 _ rfl
  have kw0_c0 := kw0.here.cell 0 _ rfl
  have kw0_c1 := kw0.here.cell 1 _ rfl
  have kw0_c2 := kw0.here.cell 2 _ rfl
  go_wp2_with fail
  clear kg0_c0 kg0_c1 kg0_c2 kw0_c0 kw0_c1 kw0_c2
  refine (eqD_cal _ _ R0 R0 _ (capD_of (by omega)) (OwnD.rd og0.here) (OwnD.rd ow0.here)).mono ?_
  rintro e w8 ⟨rfl, b8⟩
  rw [decide_refl]
  have bb8 := Below.next bb7 b8
  replace ka := ka.below b8
  replace kw0 := kw0.below b8
  replace ow0 := ow0.below b8
  replace kxa := kxa.below b8
  replace kg0 := kg0.below b8
  replace og0 := og0.below b8
  replace mkxa := mkxa.below b8
  clear hk
  have kg0_c0 := kg0.here.cell 0 _ rfl
  have kg0_c1 := kg0.here.cell 1 _ rfl
  have kg0_c2 := kg0.here.cell 2 _ rfl
  go_wp2_with fail
  clear kg0_c0 kg0_c1 kg0_c2
  refine (markD_cal _ R0 _ (1) _ (by omega) (by omega) og0).mono ?_
  rintro e w9 ⟨rfl, mkg0, c9⟩
  clear og0
  have bb9 := below_chg bb8 c9 bb8.size (fun i hi => F_g0.out i (List.mem_cons_of_mem _ hi))
  replace ka := ka.chg c9 (fun i hi hm => KX_a_g0.out i hi (List.mem_cons_of_mem _ hm))
  replace kw0 := kw0.chg c9 (fun i hi hm => AP_w0_g0.out i (by simp at hi; subst hi; exact List.mem_cons_self ..) (List.mem_cons_of_mem _ hm))
  replace ow0 := ow0.chg c9 (fun i hi hm => AP_w0_g0.out i (List.mem_cons_of_mem _ hi) (List.mem_cons_of_mem _ hm))
  replace kxa := kxa.chg c9 (fun i hi hm => AP_xa_g0.out i (by simp at hi; subst hi; exact List.mem_cons_self ..) (List.mem_cons_of_mem _ hm))
  replace kg0 := kg0.chg c9 (fun i hi hm => by simp at hi; subst hi; exact N_g0.out hm)
  replace mkxa := mkxa.chg c9 (fun i hi hm => AP_xa_g0.out i (List.mem_cons_of_mem _ hi) (List.mem_cons_of_mem _ hm))
  have kg0_c0 := kg0.here.cell 0 _ rfl
  have kg0_c1 := kg0.here.cell 1 _ rfl
  have kg0_c2 := kg0.here.cell 2 _ rfl
  go_wp2_with fail
  clear kg0_c0 kg0_c1 kg0_c2
  refine (heldD_cal _ R0 (1) _ (by omega) (by omega) mkg0.here).mono ?_
  rintro e w10 ⟨rfl, b10⟩
  have bb10 := Below.next bb9 b10
  replace ka := ka.below b10
  replace kw0 := kw0.below b10
  replace ow0 := ow0.below b10
  replace kxa := kxa.below b10
  replace kg0 := kg0.below b10
  replace mkxa := mkxa.below b10
  replace mkg0 := mkg0.below b10
  have hq10 : decide ((1 : Int) + szD R0 < 0) = false := decide_eq_false (by omega)
  have ka_c0 := ka.here.cell 0 _ rfl
  have ka_c1 := ka.here.cell 1 _ rfl
  have ka_c2 := ka.here.cell 2 _ rfl
  go_upto_region 24 with fail
  go_cut [14, 15] (fun s t1 wx => NewLocV 30 (fun v => OwnD v R0) w10 s wx ∧ t1 = .bool R1)
  case first =>
    go_wp2_with fail
    refine (toD_new _ a _ hza (RFa.out _ bb10)).mono ?_
    rintro e wt ⟨ut, St, rfl, ot, lt, bt⟩
    obtain ⟨At, ct, rfl⟩ := ownD_form ot.here
    go_wp2_with fail
    have bb_t := Below.next bb10 bt
    refine (HI.out _ _ ot.here (HT0.out.below bb_t)).mono ?_
    rintro e wf ⟨uf, Sf, rfl, of, lf, bf⟩
    obtain ⟨Af, cf, rfl⟩ := ownD_form of.here
    have bwf := Below.next bt bf
    go_wp2_with fail
    go_meet
    exact ⟨newLocV_last of lf bt.size bwf, rfl⟩
  rename World => w11
  clear ka_c0 ka_c1 ka_c2
  obtain ⟨⟨gh0, csh0, Sh0, rfl, kh0, oh0, nh0, lh0, b11⟩, rfl⟩ := hcut
  obtain ⟨Ah0, ch0, eh0⟩ := ownD_form oh0.here
  injection eh0 with eh0
  subst eh0
  have bb11 := Below.next bb10 b11
  replace ka := ka.below b11
  replace kw0 := kw0.below b11
  replace ow0 := ow0.below b11
  replace kxa := kxa.below b11
  replace kg0 := kg0.below b11
  replace mkxa := mkxa.below b11
  replace mkg0 := mkg0.below b11
  have kh0_c0 := kh0.here.cell 0 _ rfl
  have kh0_c1 := kh0.here.cell 1 _ rfl
  have kh0_c2 := kh0.here.cell 2 _ rfl
  have kw0_c0 := kw0.here.cell 0 _ rfl
  have kw0_c1 := kw0.here.cell 1 _ rfl
  have kw0_c2 := kw0.here.cell 2 _ rfl
  go_wp2_with fail
  clear kh0_c0 kh0_c1 kh0_c2 kw0_c0 kw0_c1 kw0_c2
  refine (eqD_cal _ _ R0 R0 _ (capD_of (by omega)) (OwnD.rd oh0.here) (OwnD.rd ow0.here)).mono ?_
  rintro e w12 ⟨rfl, b12⟩
  rw [decide_refl]
  have bb12 := Below.next bb11 b12
  replace ka := ka.below b12
  replace kw0 := kw0.below b12
  replace ow0 := ow0.below b12
  replace kxa := kxa.below b12
  replace kg0 := kg0.below b12
  replace mkxa := mkxa.below b12
  replace mkg0 := mkg0.below b12
  replace kh0 := kh0.below b12
  replace oh0 := oh0.below b12
  have kg0_c0 := kg0.here.cell 0 _ rfl
  have kg0_c1 := kg0.here.cell 1 _ rfl
  have kg0_c2 := kg0.here.cell 2 _ rfl
  go_wp2_with fail
  clear kg0_c0 kg0_c1 kg0_c2
  refine (heldD_cal _ R0 (1) _ (by omega) (by omega) mkg0.here).mono ?_
  rintro e w13 ⟨rfl, b13⟩
  have bb13 := Below.next bb12 b13
  replace ka := ka.below b13
  replace kw0 := kw0.below b13
  replace ow0 := ow0.below b13
  replace kxa := kxa.below b13
  replace kg0 := kg0.below b13
  replace mkxa := mkxa.below b13
  replace mkg0 := mkg0.below b13
  replace kh0 := kh0.below b13
  replace oh0 := oh0.below b13
  have hq13 : decide ((1 : Int) + szD R0 < 0) = false := decide_eq_false (by omega)
  go_wp2
  go_ret
  exact ⟨rfl, bb13⟩
end Go.Proofs.YthfkdofnoomhaaaGreatDoor

namespace Go.Proofs.YthfkdofnoomhaaaGreatDoor
open Go.RowKit

theorem twoRows_eqD {a b c d : List Int} {w w' : World} {e : Ending} (h : TwoRows a b w e w') (h1 : a = c) (h2 : b = d) : TwoRows c d w e w' := by subst h1 h2; exact h
theorem cutN_lens (a : List Int) (k : Int) : (cutN a k).1.length ≤ 50 ∧ (cutN a k).2.length ≤ 50 := by
  unfold cutN
  split
  · unfold divN
    split
    · rename_i h
      have ha := natOk_limbs h.1
      have hl := (natOk_parts h.1).2.1
      have hb := natOk_limbs h.2.1
      have hlb := (natOk_parts h.2.1).2.1
      have na := nval_ok h.1
      have nb := nval_ok h.2.1
      have l1 := nval_lt a (natOk_parts h.1).1
      have l2 := nval_lt (tenN k) (natOk_parts h.2.1).1
      have b1 : bp a.length ≤ bp 50 := bp_mono hl
      have b2 : bp (tenN k).length ≤ bp 50 := bp_mono hlb
      have hpos : 0 < nval (tenN k) := by
        have h1 := ok_ge h.2.1 h.2.2
        have h2 := bp_pos ((tenN k).length - 1)
        omega
      have q0 := Int.ediv_nonneg na (Int.le_of_lt hpos)
      have q1 := Int.ediv_le_self (nval (tenN k)) na
      have r0 := Int.emod_nonneg (nval a) (Int.ne_of_gt hpos)
      have r1 := Int.emod_lt_of_pos (nval a) hpos
      exact ⟨limbs_length_le _ 50 (by omega), limbs_length_le _ 50 (by omega)⟩
    · simp
  · simp
set_option maxHeartbeats 4000000 in
set_option maxRecDepth 100000 in
theorem specDecAt_any (va : Value) (a : DI) (k : Int) (w : World) (hla : a.1.2.length ≤ 1048576) (ha : OwnD va a w) :
    Calls Tryz.prog 24 #[va, .int .i64 k] w (PostDb (atD a k).1 (atD a k).2 w) := by
  have Ha := Lib.hid ha
  obtain ⟨Aa, ca, rfl⟩ := ownD_form ha
  have ODa := Lib.hid (show ∀ W, Below w.heap.size w W → OwnD (.agg #[.bool a.1.1, .slice Aa a.1.2.length ca, .int .i64 a.2]) a W from fun W hb => OwnD.below Ha.out hb)
  have OIa := Lib.hid (show ∀ W, Below w.heap.size w W → OwnI (.slice Aa a.1.2.length ca) a.1.2 W from fun W hb => ownD_open (ODa.out W hb))
  have OSa := Lib.hid (show ∀ W, Below w.heap.size w W → OwnS (.agg #[.bool a.1.1, .slice Aa a.1.2.length ca]) a.1 W from fun W hb => OwnS.mk (OIa.out W hb))
  clear ha
  have bb0 : Below w.heap.size w ((w.alloc (.cells #[.bool a.1.1, .slice Aa a.1.2.length ca, .int .i64 a.2] 30)).alloc (.cells #[.bool false, .slice none 0 0, .int .i64 0] 30)) := below_al (below_al (Below.refl _ _) _) _
  have ka := (box_new w #[.bool a.1.1, .slice Aa a.1.2.length ca, .int .i64 a.2] 30).below (below_al (Below.refl _ _) (.cells #[.bool false, .slice none 0 0, .int .i64 0] 30))
  have ko := (box_new (w.alloc (.cells #[.bool a.1.1, .slice Aa a.1.2.length ca, .int .i64 a.2] 30)) #[.bool false, .slice none 0 0, .int .i64 0] 30)
  rw [show (w.alloc (.cells #[.bool a.1.1, .slice Aa a.1.2.length ca, .int .i64 a.2] 30)).heap.size = w.heap.size + 1 by simp] at ko
  have HKO := Lib.hid (ko.lt (w.heap.size + 1) (by simp))
  obtain ⟨Q, hQ⟩ : ∃ Q, atD a k = Q := ⟨_, rfl⟩
  have EQ := Lib.hid hQ
  rw [hQ]
  clear hQ
  go_enter Tryz.func24, Tryz.ntmps24
  have ka_c0 := ka.here.cell 0 _ rfl
  have ka_c1 := ka.here.cell 1 _ rfl
  have ka_c2 := ka.here.cell 2 _ rfl
  go_wp2_with fail
  clear ka_c0 ka_c1 ka_c2
  refine (specDecOk_any _ a _ hla (ODa.out _ bb0)).mono ?_
  rintro e w1 ⟨rfl, b1⟩
  have bb1 := Below.next bb0 b1
  replace ka := ka.below b1
  replace ko := ko.below b1
  by_cases ok : okD a = true
  · rw [ok]
    have HO := Lib.hid ok
    have qa := partsD ok
    have la := qa.len
    have ta := qa.lo
    have ta2 := qa.hi
    clear ok qa
    by_cases hk : 0 ≤ k ∧ k ≤ 30
    · have hk0 := hk.1
      have hk1 := hk.2
      go_wp2_with fail
      refine (specIn_any k 0 30 true _ (decide_eq_true hk)).mono ?_
      rintro e w_ ⟨rfl, rfl⟩
      clear hk
      by_cases hs : a.2 ≤ k
      · have HV := Lib.hid (show Q = Q from rfl)
        obtain ⟨j, hj⟩ : ∃ j, IntKind.i64.wrap (k - a.2) = j := ⟨_, rfl⟩
        have hj2 : j = k - a.2 := by rw [← hj]; exact IntWalk.i64_in _ (by omega)
        have EV := Lib.hid (show decD (mulS a.1 (tenS j)) k = Q by rw [hj2, ← EQ.out]; exact atD_up HO.out hk0 hk1 hs)
        clear hj2
        have hzS : (mulS a.1 (tenS j)).2.length ≤ 1048576 := by unfold mulS; split; (have := ofZ_len (valS a.1 * valS (tenS j)); omega); decide
        have hten := tenS_len j
        have hla2 : a.1.2.length ≤ 1048576 := by omega
        have hlko := ko.lt (w.heap.size + 1) (by simp)
        have hko := HKO.out
        have ka_c0 := ka.here.cell 0 _ rfl
        have ka_c1 := ka.here.cell 1 _ rfl
        have ka_c2 := ka.here.cell 2 _ rfl
        go_wp2_with fail
        have HC0 := Lib.hid (show Chg [w.heap.size + 1] w1 w1.drew from (Chg.refl _ _).drew1)
        have HCr := Lib.hid (show Chg [w.heap.size + 1] w1 w1 from Chg.refl _ _)
        have KL := Lib.hid (show ∀ W, Chg [w.heap.size + 1] w1 W → W.cell? ⟨w.heap.size, 0, none⟩ = some (.bool a.1.1) ∧ W.cell? ⟨w.heap.size, 1, none⟩ = some (.slice Aa a.1.2.length ca) ∧ W.cell? ⟨w.heap.size, 2, none⟩ = some (.int .i64 a.2) ∧ Hid (Chg [w.heap.size + 1] w1 W) from fun W hc => ⟨(ka.chg hc (fun i hi hm => by simp at hi hm; omega)).here.cell 0 _ rfl, (ka.chg hc (fun i hi hm => by simp at hi hm; omega)).here.cell 1 _ rfl, (ka.chg hc (fun i hi hm => by simp at hi hm; omega)).here.cell 2 _ rfl, Lib.hid hc⟩)
        have BBF := Lib.hid (show ∀ W, Chg [w.heap.size + 1] w1 W → Below w.heap.size w W from fun W hc => below_chg bb1 hc bb1.size (fun i hi => by simp at hi; omega))
        clear ka_c0 ka_c1 ka_c2
        go_region_held3 (fun W => W.cell? ⟨w.heap.size, 0, none⟩ = some (.bool a.1.1) ∧ W.cell? ⟨w.heap.size, 1, none⟩ = some (.slice Aa a.1.2.length ca) ∧ W.cell? ⟨w.heap.size, 2, none⟩ = some (.int .i64 a.2) ∧ Hid (Chg [w.heap.size + 1] w1 W))
          ((refine KL.out _ ?_; (first | exact HC4.out | exact HC3.out | exact HC2.out | exact HCr.out | exact HC0.out | exact HC4.out.drew1 | exact HC3.out.drew1 | exact HC2.out.drew1 | exact HCr.out.drew1 | exact HC0.out.drew1 | exact HC4.out.trans (Chg.of_below (below_al (Below.refl _ _) _)) | exact HC3.out.trans (Chg.of_below (below_al (Below.refl _ _) _)) | exact HC2.out.trans (Chg.of_below (below_al (Below.refl _ _) _)) | exact HCr.out.trans (Chg.of_below (below_al (Below.refl _ _) _)) | exact HC0.out.trans (Chg.of_below (below_al (Below.refl _ _) _)) | exact (Chg.setCell HC4.out (by simp) _) | exact (Chg.setCell (Chg.setCell HC4.out (by simp) _) (by simp) _) | exact (Chg.setCell (Chg.setCell (Chg.setCell HC4.out (by simp) _) (by simp) _) (by simp) _) | fail)))
          (first
            | (go_at_call 84; (have hBB := (‹_ ∧ _ ∧ _ ∧ Hid (Chg [w.heap.size + 1] w1 _)›).2.2.2); (with_reducible refine (l07Ten_any j _).mono ?_); rintro e w2 ⟨ut, St, rfl, ot, lt, b2⟩; have HC2 := Lib.hid (hBB.out.trans (Chg.of_below b2)); (have ko_2 := At.below (by first | exact ko | exact At.below ko (below_al (Below.refl _ _) _) | exact At.below (At.below ko (below_al (Below.refl _ _) _)) (below_al (Below.refl _ _) _) | exact At.move ko (fun _ _ => rfl) (Nat.le_refl _)) b2); obtain ⟨At_, ct, rfl⟩ := ownS_form ot.here; have HBZ2 := Lib.hid hBB.out.size; clear hBB)
            | (go_at_call 83; (have hBB := (‹_ ∧ _ ∧ _ ∧ Hid (Chg [w.heap.size + 1] w1 _)›).2.2.2); (with_reducible refine ((specIntMul_any _ _ a.1 (tenS j) _ hla2 hten (OSa.out _ (BBF.out _ hBB.out)) (At.here (by first | exact ot | exact At.below ot (below_al (Below.refl _ _) _) | exact At.below (At.below ot (below_al (Below.refl _ _) _)) (below_al (Below.refl _ _) _) | exact At.move ot (fun _ _ => rfl) (Nat.le_refl _)))).mono fun _ _ h => NewS.newV h).mono ?_); rintro e w3 ⟨us, Ss, rfl, os, ls, b3⟩; have HC3 := Lib.hid (hBB.out.trans (Chg.of_below b3)); (have ko_3 := At.below (by first | exact ko_2 | exact At.below ko_2 (below_al (Below.refl _ _) _) | exact At.below (At.below ko_2 (below_al (Below.refl _ _) _)) (below_al (Below.refl _ _) _) | exact At.move ko_2 (fun _ _ => rfl) (Nat.le_refl _)) b3); (have ot_3 := At.below (by first | exact ot | exact At.below ot (below_al (Below.refl _ _) _) | exact At.below (At.below ot (below_al (Below.refl _ _) _)) (below_al (Below.refl _ _) _) | exact At.move ot (fun _ _ => rfl) (Nat.le_refl _)) b3); obtain ⟨As, cs, rfl⟩ := ownS_form os.here; have HBZ3 := Lib.hid hBB.out.size; clear hBB)
            | (go_at_call 68; (have hBB := (‹_ ∧ _ ∧ _ ∧ Hid (Chg [w.heap.size + 1] w1 _)›).2.2.2); (with_reducible refine ((l07Dec_any _ (mulS a.1 (tenS j)) k _ _ hzS (by first | exact os | exact At.below os (below_al (Below.refl _ _) _) | exact At.below (At.below os (below_al (Below.refl _ _) _)) (below_al (Below.refl _ _) _) | exact At.move os (fun _ _ => rfl) (Nat.le_refl _))).mono fun _ _ h => keptD_eq EV.out h).mono ?_); rintro e w4 ⟨uf, Sf, rfl, of, sf, b4⟩; have HC4 := Lib.hid (hBB.out.trans (Chg.of_below b4)); (have ko_4 := At.below (by first | exact ko_3 | exact At.below ko_3 (below_al (Below.refl _ _) _) | exact At.below (At.below ko_3 (below_al (Below.refl _ _) _)) (below_al (Below.refl _ _) _) | exact At.move ko_3 (fun _ _ => rfl) (Nat.le_refl _)) b4); (have ot_4 := At.below (by first | exact ot_3 | exact At.below ot_3 (below_al (Below.refl _ _) _) | exact At.below (At.below ot_3 (below_al (Below.refl _ _) _)) (below_al (Below.refl _ _) _) | exact At.move ot_3 (fun _ _ => rfl) (Nat.le_refl _)) b4); (have os_4 := At.below (by first | exact os | exact At.below os (below_al (Below.refl _ _) _) | exact At.below (At.below os (below_al (Below.refl _ _) _)) (below_al (Below.refl _ _) _) | exact At.move os (fun _ _ => rfl) (Nat.le_refl _)) b4); obtain ⟨Af, cf, rfl⟩ := ownD_form of.here; have cz0 := ko_4.here.cell 0 _ rfl; have fz0 := Lib.frozen_of_heap ko_4.here 0; have cz1 := ko_4.here.cell 1 _ rfl; have fz1 := Lib.frozen_of_heap ko_4.here 1; have cz2 := ko_4.here.cell 2 _ rfl; have fz2 := Lib.frozen_of_heap ko_4.here 2; have HBZ4 := Lib.hid hBB.out.size; clear hBB))
        all_goals
          have bb4 := BBF.out _ HC4.out
          replace ka := ka.chg HC4.out (fun i hi hm => by simp at hi hm; omega)
          replace ko := ko_4
          have ot := ot_4
          have os := os_4
          have lf : Within Sf _ _ := fun i hi => ⟨(ls i (sf i hi)).1, of.lt i hi⟩
          have HW := Lib.hid (newDb_at (r := w.heap.size + 1) (b := Q.2) of lf (by have := HBZ3.out; omega) (by omega) bb4)
          clear of ko os ka ot
          go_wp2
          refine bodyPost_ret (v := .tuple #[.agg #[.bool _, .slice Af _ cf, .int .i64 _], .bool _]) (by simp [results, Tryz.results24, go_sem, cz0, cz1, cz2]; exact ⟨⟨rfl, rfl, rfl⟩, rfl⟩) rfl ?_
          exact HW.out
      · have hlt : k < a.2 := by omega
        have hlt2 : ¬ (a.2 ≤ k) := hs
        obtain ⟨j, hj⟩ : ∃ j, IntKind.i64.wrap (a.2 - k) = j := ⟨_, rfl⟩
        have hj2 : j = a.2 - k := by rw [← hj]; exact IntWalk.i64_in _ (by omega)
        have dn := atD_down HO.out hk0 hlt
        rw [← hj2, EQ.out] at dn
        obtain ⟨⟨q1, q2⟩, hq⟩ : ∃ q, cutN a.1.2 j = q := ⟨_, rfl⟩
        have EC := Lib.hid hq
        have hl1 : q1.length ≤ 1048576 ∧ q2.length ≤ 1048576 := by
          have h := cutN_lens a.1.2 j
          rw [hq] at h
          exact ⟨by have := h.1; simp only at this; omega, by have := h.2; simp only at this; omega⟩
        have hl11 := hl1.1
        have hl12 := hl1.2
        rw [hq] at dn
        have HDN := Lib.hid dn
        clear hq dn hs hj2 hl1
        have ka_c0 := ka.here.cell 0 _ rfl
        have ka_c1 := ka.here.cell 1 _ rfl
        have ka_c2 := ka.here.cell 2 _ rfl
        go_wp2_with fail
        clear ka_c0 ka_c1 ka_c2
        refine ((specNatCut_any _ a.1.2 j 0 _ _ (by omega) (Nat.le_refl _) (OIa.out _ bb1).row).mono fun _ _ h => twoRows_eqD h (congrArg Prod.fst EC.out) (congrArg Prod.snd EC.out)).mono ?_
        rintro e w2 ⟨vq, vr_, rfl, oq0, or0, hqr, b2⟩
        obtain ⟨Aq, cq, rfl⟩ := own_len oq0
        obtain ⟨As, cs, rfl⟩ := own_len or0
        have oq := own_at' oq0
        have lq := own_within oq0
        clear oq0 or0 hqr
        have bb2 := Below.next bb1 b2
        replace ka := ka.below b2
        replace ko := ko.below b2
        by_cases hr : 0 < q2.length
        · have HV := Lib.hid (HDN.out.1 hr)
          have hr2 : (0 : Int) < (q2.length : Int) := by omega
          clear oq ka hr
          have cz0 := ko.here.cell 0 _ rfl
          have fz0 := Lib.frozen_of_heap ko.here 0
          have cz1 := ko.here.cell 1 _ rfl
          have fz1 := Lib.frozen_of_heap ko.here 1
          have cz2 := ko.here.cell 2 _ rfl
          have fz2 := Lib.frozen_of_heap ko.here 2
          go_wp2
          refine bodyPost_ret (v := .tuple #[.agg #[.bool false, .slice none 0 0, .int .i64 0], .bool false]) (by simp [results, Tryz.results24, go_sem, cz0, cz1, cz2]) rfl ?_
          rw [HV.out]
          first | exact newDb_zero _ bb2 | exact newDb_zero _ (below_set3 bb2 (by omega))
        · have EV := Lib.hid (HDN.out.2 hr)
          have hr2 : ¬ (0 : Int) < (q2.length : Int) := by omega
          clear hr
          have os := oq.imp (fun _ h => (OwnS.mk (x := (a.1.1, q1)) h : OwnS (.agg #[.bool a.1.1, .slice Aq q1.length cq]) (a.1.1, q1) _))
          clear oq
          have HKL := Lib.hid HKO.out
          have ka_c0 := ka.here.cell 0 _ rfl
          have ka_c1 := ka.here.cell 1 _ rfl
          have ka_c2 := ka.here.cell 2 _ rfl
          go_wp2_with fail
          clear ka_c0 ka_c1 ka_c2
          refine ((l07Dec_any _ (a.1.1, q1) k _ _ hl11 os).mono fun _ _ h => keptD_eq EV.out h).mono ?_
          rintro e w3 ⟨uf, Sf, rfl, of, sf, b3⟩
          obtain ⟨Af, cf, rfl⟩ := ownD_form of.here
          have bb3 := Below.next bb2 b3
          replace ka := ka.below b3
          replace ko := ko.below b3
          replace os := os.below b3
          have lf : Within Sf _ _ := fun i hi => ⟨(lq i (sf i hi)).1, of.lt i hi⟩
          clear os ka
          have HW := Lib.hid (newDb_at (r := w.heap.size + 1) (b := Q.2) of lf (by have := HKO.out; have := b1.size; omega) (by omega) bb3)
          have cz0 := ko.here.cell 0 _ rfl
          have fz0 := Lib.frozen_of_heap ko.here 0
          have cz1 := ko.here.cell 1 _ rfl
          have fz1 := Lib.frozen_of_heap ko.here 1
          have cz2 := ko.here.cell 2 _ rfl
          have fz2 := Lib.frozen_of_heap ko.here 2
          clear of ko
          go_wp2
          refine bodyPost_ret (v := .tuple #[.agg #[.bool _, .slice Af _ cf, .int .i64 _], .bool _]) (by simp [results, Tryz.results24, go_sem, cz0, cz1, cz2]; try exact ⟨⟨rfl, rfl, rfl⟩, rfl⟩) rfl ?_
          exact HW.out
    · skip
      have HV := Lib.hid (show Q = (zeroD, false) by rw [← EQ.out]; unfold atD; rw [if_neg (fun h => hk h.2)])
      go_wp2_with fail
      refine (specIn_any k 0 30 false _ (decide_eq_false hk)).mono ?_
      rintro e w_ ⟨rfl, rfl⟩
      clear hk ka
      have cz0 := ko.here.cell 0 _ rfl
      have fz0 := Lib.frozen_of_heap ko.here 0
      have cz1 := ko.here.cell 1 _ rfl
      have fz1 := Lib.frozen_of_heap ko.here 1
      have cz2 := ko.here.cell 2 _ rfl
      have fz2 := Lib.frozen_of_heap ko.here 2
      go_wp2
      refine bodyPost_ret (v := .tuple #[.agg #[.bool false, .slice none 0 0, .int .i64 0], .bool false]) (by simp [results, Tryz.results24, go_sem, cz0, cz1, cz2]) rfl ?_
      rw [HV.out]
      first | exact newDb_zero _ bb1 | exact newDb_zero _ (below_set3 bb1 (by omega))
  · have ok' : okD a = false := by simpa using ok
    have HV := Lib.hid (show Q = (zeroD, false) by rw [← EQ.out]; unfold atD; rw [if_neg (fun h => ok h.1)])
    rw [ok']
    clear ok ok' ka
    have cz0 := ko.here.cell 0 _ rfl
    have fz0 := Lib.frozen_of_heap ko.here 0
    have cz1 := ko.here.cell 1 _ rfl
    have fz1 := Lib.frozen_of_heap ko.here 1
    have cz2 := ko.here.cell 2 _ rfl
    have fz2 := Lib.frozen_of_heap ko.here 2
    go_wp2
    refine bodyPost_ret (v := .tuple #[.agg #[.bool false, .slice none 0 0, .int .i64 0], .bool false]) (by simp [results, Tryz.results24, go_sem, cz0, cz1, cz2]) rfl ?_
    rw [HV.out]
    first | exact newDb_zero _ bb1 | exact newDb_zero _ (below_set3 bb1 (by omega))
set_option maxHeartbeats 4000000 in
set_option maxRecDepth 100000 in
theorem specDecLow_any (va : Value) (a : DI) (w : World) (hla : a.1.2.length ≤ 1048576) (ha : OwnD va a w) :
    Calls Tryz.prog 26 #[va] w (NewV (fun u => OwnD u (lowD a)) w) := by
  have Ha := Lib.hid ha
  obtain ⟨Aa, ca, rfl⟩ := ownD_form ha
  have ODa := Lib.hid (show ∀ W, Below w.heap.size w W → OwnD (.agg #[.bool a.1.1, .slice Aa a.1.2.length ca, .int .i64 a.2]) a W from fun W hb => OwnD.below Ha.out hb)
  have OIa := Lib.hid (show ∀ W, Below w.heap.size w W → OwnI (.slice Aa a.1.2.length ca) a.1.2 W from fun W hb => ownD_open (ODa.out W hb))
  have OSa := Lib.hid (show ∀ W, Below w.heap.size w W → OwnS (.agg #[.bool a.1.1, .slice Aa a.1.2.length ca]) a.1 W from fun W hb => OwnS.mk (OIa.out W hb))
  clear ha
  have bb0 : Below w.heap.size w ((w.alloc (.cells #[.bool a.1.1, .slice Aa a.1.2.length ca, .int .i64 a.2] 30)).alloc (.cells #[.bool false, .slice none 0 0, .int .i64 0] 30)) := below_al (below_al (Below.refl _ _) _) _
  have ka := (box_new w #[.bool a.1.1, .slice Aa a.1.2.length ca, .int .i64 a.2] 30).below (below_al (Below.refl _ _) (.cells #[.bool false, .slice none 0 0, .int .i64 0] 30))
  have ko := (box_new (w.alloc (.cells #[.bool a.1.1, .slice Aa a.1.2.length ca, .int .i64 a.2] 30)) #[.bool false, .slice none 0 0, .int .i64 0] 30)
  rw [show (w.alloc (.cells #[.bool a.1.1, .slice Aa a.1.2.length ca, .int .i64 a.2] 30)).heap.size = w.heap.size + 1 by simp] at ko
  have HKO := Lib.hid (ko.lt (w.heap.size + 1) (by simp))
  obtain ⟨Q, hQ⟩ : ∃ Q, lowD a = Q := ⟨_, rfl⟩
  have EQ := Lib.hid hQ
  rw [hQ]
  clear hQ
  obtain ⟨W0, hW0⟩ : ∃ W0, W0 = ((w.alloc (.cells #[.bool a.1.1, .slice Aa a.1.2.length ca, .int .i64 a.2] 30)).alloc (.cells #[.bool false, .slice none 0 0, .int .i64 0] 30)) := ⟨_, rfl⟩
  rw [← hW0] at bb0 ka ko HKO
  have HW0 := Lib.hid hW0
  clear hW0
  go_enter Tryz.func26, Tryz.ntmps26
  go_wp2_with fail
  rw [← HW0.out]
  go_loopw [3] (fun i wx => ∃ k : Nat, k ≤ 31 ∧ i = .int .i64 k ∧ Hid (lowFrom a (31 - k) k = Q) ∧ At [w.heap.size] (BoxAt w.heap.size #[.bool a.1.1, .slice Aa a.1.2.length ca, .int .i64 a.2] 30) wx ∧ At [w.heap.size + 1] (BoxAt (w.heap.size + 1) #[.bool false, .slice none 0 0, .int .i64 0] 30) wx ∧ W0.heap.size ≤ wx.heap.size ∧ Below w.heap.size w wx) (fun i _ => 31 - (intOf i).toNat)
  case atStart => exact ⟨0, by omega, rfl, Lib.hid (EQ.out : lowFrom a 31 0 = Q), ka, ko, Nat.le_refl _, bb0⟩
  case round =>
    clear ka ko bb0
    obtain ⟨k, hk, rfl, HM, ka, ko, hzr, bbr⟩ := hrel
    by_cases hlt : k < 31
    · have h30 : (k : Int) ≤ 30 := by omega
      obtain ⟨n, hn⟩ : ∃ n, 31 - k = n + 1 := ⟨30 - k, by omega⟩
      have HK := Lib.hid (ko.lt (w.heap.size + 1) (by simp))
      have zX := szD_len (atD_sz a k)
      have HH := Lib.hid (fun h : (atD a k).2 = true => (show Q = (atD a k).1 by rw [← HM.out, hn]; exact low_hit h))
      have HN := Lib.hid (fun h : (atD a k).2 = false => (show lowFrom a (31 - (k + 1)) ((k + 1 : Nat) : Int) = Q by rw [← HM.out, hn, show 31 - (k + 1) = n by omega, Int.natCast_add]; exact (low_miss h).symm))
      have C := specDecAt_any _ a k _ hla (ODa.out _ bbr)
      generalize (atD a k).1 = X at *
      generalize (atD a k).2 = bx at *
      have HC := Lib.hid C
      clear C
      have ka_c0 := ka.here.cell 0 _ rfl
      have ka_c1 := ka.here.cell 1 _ rfl
      have ka_c2 := ka.here.cell 2 _ rfl
      go_wp2_with fail
      clear ka_c0 ka_c1 ka_c2
      refine (HC.out).mono ?_
      rintro e w1 ⟨ux, Sx, rfl, ox, lx, b1⟩
      obtain ⟨Ax, cx, rfl⟩ := ownD_form ox.here
      have bb1 := Below.next bbr b1
      replace ka := ka.below b1
      replace ko := ko.below b1
      have kx := box_new (w1) #[.bool X.1.1, .slice Ax X.1.2.length cx, .int .i64 X.2] 30
      have alx := below_al (Below.refl (w1).heap.size (w1)) (.cells #[.bool X.1.1, .slice Ax X.1.2.length cx, .int .i64 X.2] 30)
      have bbx := Below.next bb1 alx
      replace ka := ka.below alx
      replace ko := ko.below alx
      replace ox := ox.below alx
      have hz1 := b1.size
      have hzx := alx.size
      cases bx with
      | true =>
        have HV := Lib.hid (HH.out rfl)
        have HW := Lib.hid (newV_chg (φ := fun v => OwnD v X) (T := [w.heap.size + 1]) ox (fun i hi hm => by have := lx i hi; have := HK.out; simp at hm; omega) (fun i hi => by simp at hi; omega) (fun i hi => by have := lx i hi; have := HK.out; omega) bbx)
        have kx_c0 := kx.here.cell 0 _ rfl
        have kx_c1 := kx.here.cell 1 _ rfl
        have kx_c2 := kx.here.cell 2 _ rfl
        have cz0 := ko.here.cell 0 _ rfl
        have fz0 := Lib.frozen_of_heap ko.here 0
        have cz1 := ko.here.cell 1 _ rfl
        have fz1 := Lib.frozen_of_heap ko.here 1
        have cz2 := ko.here.cell 2 _ rfl
        have fz2 := Lib.frozen_of_heap ko.here 2
        clear ox kx ko ka
        go_wp2
        refine bodyPost_ret (v := .agg #[.bool _, .slice Ax _ cx, .int .i64 _]) (by simp [results, Tryz.results26, go_sem, cz0, cz1, cz2]; try exact ⟨rfl, rfl, rfl⟩) rfl ?_
        rw [HV.out]
        refine HW.out _ ?_
        repeat (first | exact Chg.refl _ _ | refine Chg.setCell ?_ (by simp) _)
      | false =>
        have HV := Lib.hid (HN.out rfl)
        clear ox kx
        go_wp2
        go_roundw
        case rel => exact ⟨k + 1, by omega, by go_num, HV, ka, ko, by omega, bbx⟩
        case measure => simp [intOf]; omega
    · obtain rfl : k = 31 := by omega
      have HV := Lib.hid (show Q = zeroD from HM.out.symm)
      have cz0 := ko.here.cell 0 _ rfl
      have fz0 := Lib.frozen_of_heap ko.here 0
      have cz1 := ko.here.cell 1 _ rfl
      have fz1 := Lib.frozen_of_heap ko.here 1
      have cz2 := ko.here.cell 2 _ rfl
      have fz2 := Lib.frozen_of_heap ko.here 2
      clear ka ko
      go_wp2
      refine bodyPost_ret (v := .agg #[.bool false, .slice none 0 0, .int .i64 0]) (by simp [results, Tryz.results26, go_sem, cz0, cz1, cz2]) rfl ?_
      rw [HV.out]
      first | exact newD_zero bbr | exact newD_zero (below_set3 bbr (by omega))
end Go.Proofs.YthfkdofnoomhaaaGreatDoor

namespace Go.Proofs.YthfkdofnoomhaaaGreatDoor
open Go.RowKit

set_option maxHeartbeats 4000000 in
set_option maxRecDepth 100000 in
theorem implDecAt_any (va : Value) (a : DI) (k : Int) (w : World) (hla : a.1.2.length ≤ 1048576) (ha : OwnD va a w) (hsen : Sen w) :
    Calls Tryz.prog 25 #[va, .int .i64 k] w (PostDb (atD a k).1 (atD a k).2 w) := by
  have HS := Lib.hid hsen
  clear hsen
  have Ha := Lib.hid ha
  obtain ⟨Aa, ca, rfl⟩ := ownD_form ha
  have ODa := Lib.hid (show ∀ W, Below w.heap.size w W → OwnD (.agg #[.bool a.1.1, .slice Aa a.1.2.length ca, .int .i64 a.2]) a W from fun W hb => OwnD.below Ha.out hb)
  have OIa := Lib.hid (show ∀ W, Below w.heap.size w W → OwnI (.slice Aa a.1.2.length ca) a.1.2 W from fun W hb => ownD_open (ODa.out W hb))
  have OSa := Lib.hid (show ∀ W, Below w.heap.size w W → OwnS (.agg #[.bool a.1.1, .slice Aa a.1.2.length ca]) a.1 W from fun W hb => OwnS.mk (OIa.out W hb))
  clear ha
  have bb0 : Below w.heap.size w ((w.alloc (.cells #[.bool a.1.1, .slice Aa a.1.2.length ca, .int .i64 a.2] 30)).alloc (.cells #[.bool false, .slice none 0 0, .int .i64 0] 30)) := below_al (below_al (Below.refl _ _) _) _
  have ka := (box_new w #[.bool a.1.1, .slice Aa a.1.2.length ca, .int .i64 a.2] 30).below (below_al (Below.refl _ _) (.cells #[.bool false, .slice none 0 0, .int .i64 0] 30))
  have ko := (box_new (w.alloc (.cells #[.bool a.1.1, .slice Aa a.1.2.length ca, .int .i64 a.2] 30)) #[.bool false, .slice none 0 0, .int .i64 0] 30)
  rw [show (w.alloc (.cells #[.bool a.1.1, .slice Aa a.1.2.length ca, .int .i64 a.2] 30)).heap.size = w.heap.size + 1 by simp] at ko
  have HKO := Lib.hid (ko.lt (w.heap.size + 1) (by simp))
  have zX := szD_len (ratDecD_sz (ratD a) k 0)
  have e0 := at_rat a k
  obtain ⟨Q, hQ⟩ : ∃ Q, atD a k = Q := ⟨_, rfl⟩
  rw [hQ]
  rw [hQ] at e0
  obtain ⟨⟨X, bx⟩, hX⟩ : ∃ q, ratDecD (ratD a) k 0 = q := ⟨_, rfl⟩
  have EX := Lib.hid hX
  rw [hX] at e0 zX
  simp only at zX
  obtain ⟨c, hc⟩ : ∃ c, cmpD X a = c := ⟨_, rfl⟩
  have EC := Lib.hid hc
  have HY := Lib.hid (fun (h1 : bx = true) (h2 : c = 0) => (show Q = (X, true) by rw [← e0]; exact if_pos ⟨h1, hc.trans h2⟩))
  have HN := Lib.hid (fun (h : ¬ (bx = true ∧ c = 0)) => (show Q = (zeroD, false) by rw [← e0]; exact if_neg (fun e => h ⟨e.1, hc.symm.trans e.2⟩)))
  have hzr := ratD_sz a
  clear hQ hX e0 hc
  go_enter Tryz.func25, Tryz.ntmps25
  have ka_c0 := ka.here.cell 0 _ rfl
  have ka_c1 := ka.here.cell 1 _ rfl
  have ka_c2 := ka.here.cell 2 _ rfl
  go_wp2_with fail
  clear ka_c0 ka_c1 ka_c2
  refine (implDecRat_any _ a _ hla (ODa.out _ bb0) (HS.out.below bb0)).mono ?_
  rintro e w1 ⟨up, Sp, rfl, op, lp, b1⟩
  obtain ⟨Ap, cp, Bp, dp, rfl⟩ := ownQ_form op.here
  have bb1 := Below.next bb0 b1
  replace ka := ka.below b1
  replace ko := ko.below b1
  go_wp2_with fail
  refine ((implRatDec_any _ (ratD a) k 0 _ hzr op.here (HS.out.below bb1)).mono fun _ _ h => postDb_is EX.out h).mono ?_
  rintro e w2 ⟨uf, Sy, rfl, oy, ly, b2⟩
  obtain ⟨Ay, cy, rfl⟩ := ownD_form oy.here
  have bb2 := Below.next bb1 b2
  replace ka := ka.below b2
  replace ko := ko.below b2
  replace op := op.below b2
  clear op
  have ky := box_new (w2) #[.bool X.1.1, .slice Ay X.1.2.length cy, .int .i64 X.2] 30
  have aly := below_al (Below.refl (w2).heap.size (w2)) (.cells #[.bool X.1.1, .slice Ay X.1.2.length cy, .int .i64 X.2] 30)
  have bby := Below.next bb2 aly
  replace ka := ka.below aly
  replace ko := ko.below aly
  replace oy := oy.below aly
  cases bx with
  | false =>
    have HV := Lib.hid (HN.out (fun h => absurd h.1 (by decide)))
    clear ky oy ka
    have cz0 := ko.here.cell 0 _ rfl
    have fz0 := Lib.frozen_of_heap ko.here 0
    have cz1 := ko.here.cell 1 _ rfl
    have fz1 := Lib.frozen_of_heap ko.here 1
    have cz2 := ko.here.cell 2 _ rfl
    have fz2 := Lib.frozen_of_heap ko.here 2
    go_wp2
    refine bodyPost_ret (v := .tuple #[.agg #[.bool false, .slice none 0 0, .int .i64 0], .bool false]) (by simp [results, Tryz.results25, go_sem, cz0, cz1, cz2]) rfl ?_
    rw [HV.out]
    first | exact newDb_zero _ bby | exact newDb_zero _ (below_set3 bby (by omega))
  | true =>
    have ky_c0 := ky.here.cell 0 _ rfl
    have ky_c1 := ky.here.cell 1 _ rfl
    have ky_c2 := ky.here.cell 2 _ rfl
    have ka_c0 := ka.here.cell 0 _ rfl
    have ka_c1 := ka.here.cell 1 _ rfl
    have ka_c2 := ka.here.cell 2 _ rfl
    go_wp2_with fail
    clear ky_c0 ky_c1 ky_c2 ka_c0 ka_c1 ka_c2
    refine ((implDecCmp_any _ _ X a _ zX hla oy.here (ODa.out _ bby)).mono fun _ _ h => postn_eqD EC.out h).mono ?_
    rintro e w3 ⟨rfl, b3⟩
    have bb3 := Below.next bby b3
    replace ka := ka.below b3
    replace ko := ko.below b3
    replace oy := oy.below b3
    replace ky := ky.below b3
    by_cases h0 : c = 0
    · have HV := Lib.hid (HY.out (by simp) h0)
      subst h0
      have HW := Lib.hid (postDb_chg (b := true) (T := [w.heap.size + 1]) oy (fun i hi hm => by have := ly i hi; have := HKO.out; have := b1.size; simp at hm; omega) (fun i hi => by simp at hi; omega) (fun i hi => by have := ly i hi; have := HKO.out; have := b1.size; omega) bb3)
      have ky_c0 := ky.here.cell 0 _ rfl
      have ky_c1 := ky.here.cell 1 _ rfl
      have ky_c2 := ky.here.cell 2 _ rfl
      have cz0 := ko.here.cell 0 _ rfl
      have fz0 := Lib.frozen_of_heap ko.here 0
      have cz1 := ko.here.cell 1 _ rfl
      have fz1 := Lib.frozen_of_heap ko.here 1
      have cz2 := ko.here.cell 2 _ rfl
      have fz2 := Lib.frozen_of_heap ko.here 2
      clear oy ky ko ka
      go_wp2
      refine bodyPost_ret (v := .tuple #[.agg #[.bool _, .slice Ay _ cy, .int .i64 _], .bool true]) (by simp [results, Tryz.results25, go_sem, cz0, cz1, cz2]; try exact ⟨rfl, rfl, rfl⟩) rfl ?_
      rw [HV.out]
      refine HW.out _ ?_
      repeat (first | exact Chg.refl _ _ | refine Chg.setCell ?_ (by simp) _)
    · have HV := Lib.hid (HN.out (fun h => h0 h.2))
      have hne : (c == 0) = false := by rw [beq_eq_false_iff_ne]; exact h0
      have hne2 : (c != 0) = true := by rw [bne_iff_ne]; exact h0
      clear ky oy ka
      have cz0 := ko.here.cell 0 _ rfl
      have fz0 := Lib.frozen_of_heap ko.here 0
      have cz1 := ko.here.cell 1 _ rfl
      have fz1 := Lib.frozen_of_heap ko.here 1
      have cz2 := ko.here.cell 2 _ rfl
      have fz2 := Lib.frozen_of_heap ko.here 2
      go_wp2
      refine bodyPost_ret (v := .tuple #[.agg #[.bool false, .slice none 0 0, .int .i64 0], .bool false]) (by simp [results, Tryz.results25, go_sem, cz0, cz1, cz2]) rfl ?_
      rw [HV.out]
      first | exact newDb_zero _ bb3 | exact newDb_zero _ (below_set3 bb3 (by omega))
set_option maxHeartbeats 4000000 in
set_option maxRecDepth 100000 in
theorem implDecLow_any (va : Value) (a : DI) (w : World) (hla : a.1.2.length ≤ 1048576) (ha : OwnD va a w) (hsen : Sen w) :
    Calls Tryz.prog 27 #[va] w (NewV (fun u => OwnD u (lowD a)) w) := by
  have HS := Lib.hid hsen
  clear hsen
  have Ha := Lib.hid ha
  obtain ⟨Aa, ca, rfl⟩ := ownD_form ha
  have ODa := Lib.hid (show ∀ W, Below w.heap.size w W → OwnD (.agg #[.bool a.1.1, .slice Aa a.1.2.length ca, .int .i64 a.2]) a W from fun W hb => OwnD.below Ha.out hb)
  have OIa := Lib.hid (show ∀ W, Below w.heap.size w W → OwnI (.slice Aa a.1.2.length ca) a.1.2 W from fun W hb => ownD_open (ODa.out W hb))
  have OSa := Lib.hid (show ∀ W, Below w.heap.size w W → OwnS (.agg #[.bool a.1.1, .slice Aa a.1.2.length ca]) a.1 W from fun W hb => OwnS.mk (OIa.out W hb))
  clear ha
  have bb0 : Below w.heap.size w ((w.alloc (.cells #[.bool a.1.1, .slice Aa a.1.2.length ca, .int .i64 a.2] 30)).alloc (.cells #[.bool false, .slice none 0 0, .int .i64 0] 30)) := below_al (below_al (Below.refl _ _) _) _
  have ka := (box_new w #[.bool a.1.1, .slice Aa a.1.2.length ca, .int .i64 a.2] 30).below (below_al (Below.refl _ _) (.cells #[.bool false, .slice none 0 0, .int .i64 0] 30))
  have ko := (box_new (w.alloc (.cells #[.bool a.1.1, .slice Aa a.1.2.length ca, .int .i64 a.2] 30)) #[.bool false, .slice none 0 0, .int .i64 0] 30)
  rw [show (w.alloc (.cells #[.bool a.1.1, .slice Aa a.1.2.length ca, .int .i64 a.2] 30)).heap.size = w.heap.size + 1 by simp] at ko
  have HKO := Lib.hid (ko.lt (w.heap.size + 1) (by simp))
  obtain ⟨z, hz⟩ : ∃ z, zerosN a.1.2 = z := ⟨_, rfl⟩
  have EZ := Lib.hid hz
  obtain ⟨mn, hmn⟩ : ∃ m, min a.2 z = m := ⟨_, rfl⟩
  have hmn2 : (if a.2 < z then a.2 else z) = mn := by rw [← hmn]; split <;> omega
  have hmn3 : (if z < a.2 then z else a.2) = mn := by rw [← hmn]; split <;> omega
  obtain ⟨j, hj⟩ : ∃ j, IntKind.i64.wrap (a.2 - mn) = j := ⟨_, rfl⟩
  obtain ⟨c, hc⟩ : ∃ c, cmpS a.1 zeroS = c := ⟨_, rfl⟩
  have EC := Lib.hid hc
  have H0 := Lib.hid (fun h : c = 0 => (show (atD a 0).1 = lowD a by have h1 := low_impl a; unfold lowK at h1; rw [hc, if_pos h] at h1; exact h1))
  have H1 := Lib.hid (fun h : ¬ c = 0 => (show (atD a j).1 = lowD a by
    have h1 := low_impl a
    by_cases ok : okD a = true
    · have p := partsD ok
      have p1 := p.lo
      have p2 := p.hi
      have hz0 : 0 ≤ z := by rw [← hz]; unfold zerosN; split <;> omega
      have e : j = lowK a := by
        rw [← hj, ← hmn]
        unfold lowK
        rw [hc, if_neg h, hz]
        rw [IntWalk.i64_in _ (by omega)]
        split <;> omega
      rw [e]
      exact h1
    · have e : ∀ q, (atD a q).1 = zeroD := fun q => by unfold atD; rw [if_neg (fun h => ok h.1)]
      rw [e] at h1 ⊢
      exact h1))
  obtain ⟨Q, hQ⟩ : ∃ Q, lowD a = Q := ⟨_, rfl⟩
  rw [hQ] at H0 H1
  rw [hQ]
  clear hQ hc hz
  have HNZ := Lib.hid (show ∀ (v : Value) (W : World), OwnI v a.1.2 W → Calls Tryz.prog 86 #[v] W (Postn z W) from fun v W h => (implNatZeros_any v a.1.2 0 _ W hla h.row).mono fun _ _ k => ⟨by rw [← EZ.out]; exact k.1, k.2 ▸ Below.refl _ _⟩)
  obtain ⟨W0, hW0⟩ : ∃ W0, W0 = ((w.alloc (.cells #[.bool a.1.1, .slice Aa a.1.2.length ca, .int .i64 a.2] 30)).alloc (.cells #[.bool false, .slice none 0 0, .int .i64 0] 30)) := ⟨_, rfl⟩
  rw [← hW0] at bb0 ka ko HKO
  have HW0 := Lib.hid hW0
  clear hW0
  go_enter Tryz.func27, Tryz.ntmps27
  have ka_c0 := ka.here.cell 0 _ rfl
  have ka_c1 := ka.here.cell 1 _ rfl
  have ka_c2 := ka.here.cell 2 _ rfl
  rw [HW0.out] at ka_c0 ka_c1 ka_c2
  go_wp2_with fail
  rw [← HW0.out]
  clear ka_c0 ka_c1 ka_c2
  have HC0 := Lib.hid (show Chg [] W0 W0.drew from (Chg.refl _ _).drew1)
  have HCr := Lib.hid (show Chg [] W0 W0 from Chg.refl _ _)
  have KL := Lib.hid (show ∀ W, Chg [] W0 W → W.cell? ⟨w.heap.size, 0, none⟩ = some (.bool a.1.1) ∧ W.cell? ⟨w.heap.size, 1, none⟩ = some (.slice Aa a.1.2.length ca) ∧ W.cell? ⟨w.heap.size, 2, none⟩ = some (.int .i64 a.2) ∧ Hid (Chg [] W0 W) from fun W hc => ⟨(ka.chg hc (fun i hi hm => by simp at hm)).here.cell 0 _ rfl, (ka.chg hc (fun i hi hm => by simp at hm)).here.cell 1 _ rfl, (ka.chg hc (fun i hi hm => by simp at hm)).here.cell 2 _ rfl, Lib.hid hc⟩)
  have BBF := Lib.hid (show ∀ W, Chg [] W0 W → Below w.heap.size w W from fun W hc => below_chg bb0 hc bb0.size (fun i hi => by simp at hi))
  go_region_held3 (fun W => W.cell? ⟨w.heap.size, 0, none⟩ = some (.bool a.1.1) ∧ W.cell? ⟨w.heap.size, 1, none⟩ = some (.slice Aa a.1.2.length ca) ∧ W.cell? ⟨w.heap.size, 2, none⟩ = some (.int .i64 a.2) ∧ Hid (Chg [] W0 W))
    ((refine KL.out _ ?_; (first | exact HC1.out | exact HCr.out | exact HC0.out | exact HC1.out.drew1 | exact HCr.out.drew1 | exact HC0.out.drew1 | exact HC1.out.trans (Chg.of_below (below_al (Below.refl _ _) _)) | exact HCr.out.trans (Chg.of_below (below_al (Below.refl _ _) _)) | exact HC0.out.trans (Chg.of_below (below_al (Below.refl _ _) _)) | fail)))
    (first
      | (go_at_call 86; (have hBB := (‹_ ∧ _ ∧ _ ∧ Hid (Chg [] W0 _)›).2.2.2); (with_reducible refine (HNZ.out _ _ (OIa.out _ (BBF.out _ hBB.out))).mono ?_); rintro e w1 ⟨rfl, b1⟩; have HC1 := Lib.hid (hBB.out.trans (Chg.of_below b1)); have HBZ1 := Lib.hid hBB.out.size; clear hBB))
  all_goals
    have bb1 := BBF.out _ HC1.out
    replace ka := ka.chg HC1.out (fun i hi hm => by simp at hm)
    replace ko := ko.chg HC1.out (fun i hi hm => by simp at hm)
    have ka_c0 := ka.here.cell 0 _ rfl
    have ka_c1 := ka.here.cell 1 _ rfl
    have ka_c2 := ka.here.cell 2 _ rfl
    go_wp2_with fail
    clear ka_c0 ka_c1 ka_c2
    refine ((implIntSign_any _ a.1 _ hla (OSa.out _ bb1)).mono fun _ _ h => postn_eqD EC.out h).mono ?_
    rintro e w2 ⟨rfl, b2⟩
    have bb2 := Below.next bb1 b2
    replace ka := ka.below b2
    replace ko := ko.below b2
    by_cases h0 : c = 0
    · have HE := Lib.hid (H0.out h0)
      subst h0
      have zX := szD_len (atD_sz a 0)
      have EX := Lib.hid (HE.out)
      have HKL := Lib.hid (ko.lt (w.heap.size + 1) (by simp))
      have ka_c0 := ka.here.cell 0 _ rfl
      have ka_c1 := ka.here.cell 1 _ rfl
      have ka_c2 := ka.here.cell 2 _ rfl
      go_wp2_with fail
      clear ka_c0 ka_c1 ka_c2
      refine (implDecAt_any _ a 0 _ hla (ODa.out _ bb2) (HS.out.below bb2)).mono ?_
      rintro e w3 ⟨ux, Sx, rfl, ox, lx, b3⟩
      rw [EX.out] at ox zX
      obtain ⟨Ax, cx, rfl⟩ := ownD_form ox.here
      have bb3 := Below.next bb2 b3
      replace ka := ka.below b3
      replace ko := ko.below b3
      have kx := box_new (w3) #[.bool Q.1.1, .slice Ax Q.1.2.length cx, .int .i64 Q.2] 30
      have alx := below_al (Below.refl (w3).heap.size (w3)) (.cells #[.bool Q.1.1, .slice Ax Q.1.2.length cx, .int .i64 Q.2] 30)
      have bbx := Below.next bb3 alx
      replace ka := ka.below alx
      replace ko := ko.below alx
      replace ox := ox.below alx
      have HW := Lib.hid (newV_chg (φ := fun v => OwnD v Q) (T := [w.heap.size + 1]) ox (fun i hi hm => by have := lx i hi; have := HKL.out; simp at hm; omega) (fun i hi => by simp at hi; omega) (fun i hi => by have := lx i hi; have := HKL.out; omega) bbx)
      have kx_c0 := kx.here.cell 0 _ rfl
      have kx_c1 := kx.here.cell 1 _ rfl
      have kx_c2 := kx.here.cell 2 _ rfl
      have cz0 := ko.here.cell 0 _ rfl
      have fz0 := Lib.frozen_of_heap ko.here 0
      have cz1 := ko.here.cell 1 _ rfl
      have fz1 := Lib.frozen_of_heap ko.here 1
      have cz2 := ko.here.cell 2 _ rfl
      have fz2 := Lib.frozen_of_heap ko.here 2
      clear ox kx ko ka
      go_wp2
      refine bodyPost_ret (v := .agg #[.bool _, .slice Ax _ cx, .int .i64 _]) (by simp [results, Tryz.results27, go_sem, cz0, cz1, cz2]; try exact ⟨rfl, rfl, rfl⟩) rfl ?_
      refine HW.out _ ?_
      repeat (first | exact Chg.refl _ _ | refine Chg.setCell ?_ (by simp) _)
    · have HE := Lib.hid (H1.out h0)
      have hne : (c == 0) = false := by rw [beq_eq_false_iff_ne]; exact h0
      clear h0
      have zX := szD_len (atD_sz a j)
      have EX := Lib.hid (HE.out)
      have HKL := Lib.hid (ko.lt (w.heap.size + 1) (by simp))
      have ka_c0 := ka.here.cell 0 _ rfl
      have ka_c1 := ka.here.cell 1 _ rfl
      have ka_c2 := ka.here.cell 2 _ rfl
      go_wp2_with fail
      clear ka_c0 ka_c1 ka_c2
      refine (implDecAt_any _ a j _ hla (ODa.out _ bb2) (HS.out.below bb2)).mono ?_
      rintro e w3 ⟨ux, Sx, rfl, ox, lx, b3⟩
      rw [EX.out] at ox zX
      obtain ⟨Ax, cx, rfl⟩ := ownD_form ox.here
      have bb3 := Below.next bb2 b3
      replace ka := ka.below b3
      replace ko := ko.below b3
      have kx := box_new (w3) #[.bool Q.1.1, .slice Ax Q.1.2.length cx, .int .i64 Q.2] 30
      have alx := below_al (Below.refl (w3).heap.size (w3)) (.cells #[.bool Q.1.1, .slice Ax Q.1.2.length cx, .int .i64 Q.2] 30)
      have bbx := Below.next bb3 alx
      replace ka := ka.below alx
      replace ko := ko.below alx
      replace ox := ox.below alx
      have HW := Lib.hid (newV_chg (φ := fun v => OwnD v Q) (T := [w.heap.size + 1]) ox (fun i hi hm => by have := lx i hi; have := HKL.out; simp at hm; omega) (fun i hi => by simp at hi; omega) (fun i hi => by have := lx i hi; have := HKL.out; omega) bbx)
      have kx_c0 := kx.here.cell 0 _ rfl
      have kx_c1 := kx.here.cell 1 _ rfl
      have kx_c2 := kx.here.cell 2 _ rfl
      have cz0 := ko.here.cell 0 _ rfl
      have fz0 := Lib.frozen_of_heap ko.here 0
      have cz1 := ko.here.cell 1 _ rfl
      have fz1 := Lib.frozen_of_heap ko.here 1
      have cz2 := ko.here.cell 2 _ rfl
      have fz2 := Lib.frozen_of_heap ko.here 2
      clear ox kx ko ka
      go_wp2
      refine bodyPost_ret (v := .agg #[.bool _, .slice Ax _ cx, .int .i64 _]) (by simp [results, Tryz.results27, go_sem, cz0, cz1, cz2]; try exact ⟨rfl, rfl, rfl⟩) rfl ?_
      refine HW.out _ ?_
      repeat (first | exact Chg.refl _ _ | refine Chg.setCell ?_ (by simp) _)
end Go.Proofs.YthfkdofnoomhaaaGreatDoor
