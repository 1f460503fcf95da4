/-
  Law, Args, SignedArg, RateArg, VarLaw, CurTab, CurWorld, SenOnly, CurSenWorld
-/
import Derived.Test.YtbpfabicampdkaaGreatDoorRows
import Derived.WalkKit
import Derived.ProofKit
import Derived.OpenShut
import Derived.JoinedCond
import Derived.Lib.SmallJoins
import Derived.ChangeArms
import Derived.Deep.Strs
import Derived.Test.YtbpfabicampdkaaGreatDoorCards
import Derived.Test.YtbpfabicampdkaaGreatDoorTie
import Derived.Deep.DeepHandedRow
import Derived.OpenVars
import Derived.Lib.LaidU8
import Derived.Stop.LaidErr
import Derived.Test.YtbpfabicampdkaaGreatDoorJB10
namespace Go.Proofs.YtbpfabicampdkaaGreatDoor
open Go.ChangeShapes Go.WideShapes Go.ChangeAt Go.RowKit

theorem Tryz.own : ownKnob Tryz.prog.godebug = none := by kernel_rfl
theorem Tryz.laidOut : laidOutB Tryz.prog = true := by kernel_rfl

section
variable {H : Type} {enc : TypeId × Value → H} {P : Program}

/-- the types of a list can all be read, and all lie in the program's table -/
def legible (P : Program) (ts : List TypeId) : Bool := ts.all fun t => P.readableRec t && decide (t < P.types.size)

theorem args_below (hl : laidOutB P = true) {W W' : World} (hb : Below W.heap.size W W') :
    ∀ {ts : List TypeId} {vs : List Value} {ds : List (DataW H)} {ps : List MemPlace}, legible P ts = true → DataW.TrodAll enc P W 0 (fun _ => true) true ts vs ds ps → (∀ x ∈ ps, x.block < W.heap.size) →
      DataW.TrodAll enc P W' 0 (fun b => decide (b < W.heap.size)) true ts vs ds ps
  | [], _, _, _, _, h, _ => by
    obtain ⟨rfl, rfl, rfl⟩ := trodAll_nil h
    rfl
  | t :: ts, _, _, _, hr, h, hlt => by
    obtain ⟨v, vs, d, ds, p, q, rfl, rfl, rfl, h1, h2⟩ := trodAll_cons h
    simp only [legible, List.all_cons, Bool.and_eq_true, decide_eq_true_eq] at hr
    exact ⟨p, q, Below.trod hl hr.1.1 hr.1.2 h1 hb (fun x hx => hlt x (List.mem_append_left _ hx)), args_below hl hb (by simpa only [legible] using hr.2) h2 (fun x hx => hlt x (List.mem_append_right _ hx)), rfl⟩

/-- the post of a law that lists no variable -/
theorem law_post (hl : laidOutB P = true) {f : Func} {s : ChangeSpec} {tb : TypeId} {W W' : World} {args : Array Value} {ds gs : List (DataW H)} {before : List MemPlace}
    (hr : legible P f.params.toList = true) (hty : f.resultTypes = #[tb]) (htb : P.underlying tb = some .bool) (hvars : s.vars = [])
    (hfn : s.fn H ds = { results := [.lit (.bool true)], args := ds })
    (hW : DataW.Whole enc P f.params.toList s.vars false W args.toList ds gs before) (hb : Below W.heap.size W W') :
    s.post enc P f false true false false W args (.bool true) W' := by
  have hW' := hW
  obtain ⟨p, q, hA, hV, rfl, _, _⟩ := hW
  rw [hvars] at hV
  obtain ⟨rfl, rfl⟩ := trodVars_none hV
  have hlt : ∀ x ∈ p, x.block < W.heap.size := fun x hx => hW'.lt x (by simpa using hx)
  have e : s.fn H (ds ++ []) = { results := [.lit (.bool true)], args := ds } := by rw [List.append_nil]; exact hfn
  refine ⟨ds, [], p ++ [], [], p, [], hW', ?_, ?_, ?_, hb.frame _, fun h => by cases h⟩
  · rw [e, hty]
    exact trodAll_mk1 (shut_bool htb _)
  · rw [e]
    exact args_below hl hb hr hA hlt
  · rw [e, hvars]
    rfl
end

set_option maxRecDepth 100000 in
/-- a law that lists no variable: from the walk at every argument to the lifted row -/
theorem law_lifted {H : Type} {enc : TypeId × Value → H} {os : Os} (started : os.Started) {f : FuncId} {fn : Func} {s : ChangeSpec} {conds : List PathCond} {tb : TypeId}
    (noInit : Tryz.prog.inits.idxOf? f = none) (hfun : Tryz.prog.funcs[f]? = some fn)
    (hr : legible Tryz.prog fn.params.toList = true) (hty : fn.resultTypes = #[tb]) (htb : Tryz.prog.underlying tb = some .bool) (hvars : s.vars = [])
    (witness : ∃ (w : World) (tape : Tape) (i : Input), w.os = os ∧ (w.forCall tape i).Shaped Tryz.checked.prog ∧ i.vars = [] ∧ Input.okWide Tryz.checked.prog (w.forCall tape i) .any w.heap.size f i ∧
      s.pre6 enc Tryz.checked.prog fn conds false (w.forCall tape i).memory i.args ∧ Assume.holds {} Tryz.checked.prog (lone (Frame.enter Tryz.checked.prog f i.args .normal) [] (w.forCall tape i)))
    (walk : ∀ (W : World) (base : Nat) (args : Array Value) (ds : List (DataW H)) (p : List MemPlace),
      (∀ (j : Nat) t v, fn.params[j]? = some t → args[j]? = some v → Value.okWide Tryz.prog W .any base t v) →
      DataW.TrodAll enc Tryz.prog W 0 (fun _ => true) true fn.params.toList args.toList ds p → (∀ x ∈ p, x.block < W.heap.size) → W.noneFrozen p →
      s.fn H ds = { results := [.lit (.bool true)], args := ds } ∧ Calls Tryz.prog f args W fun e W' => e = .returned (.bool true) ∧ Below W.heap.size W W') :
    ReturnsInHanded {} Tryz.checked os f .any (s.pre6 enc Tryz.prog fn conds false) (s.post enc Tryz.prog fn false true false false) := by
  refine returnsInHanded_of_change (C := Tryz.checked) Tryz.own started noInit hfun witness ?_
  intro W base args ds gs before hval hW _ _
  have hW' := hW
  obtain ⟨p, q, hA, hV, rfl, hz, _⟩ := hW
  rw [hvars] at hV
  obtain ⟨rfl, rfl⟩ := trodVars_none hV
  obtain ⟨hfn, hc⟩ := walk W base args ds p hval hA (fun x hx => hW'.lt x (by simpa using hx)) (by simpa using hz)
  refine hc.mono fun e W' ⟨he, hb⟩ => ?_
  subst he
  exact ⟨_, rfl, law_post Tryz.laidOut hr hty htb hvars hfn hW' hb⟩
end Go.Proofs.YtbpfabicampdkaaGreatDoor

namespace Go.Proofs.YtbpfabicampdkaaGreatDoor
open Go.ChangeShapes Go.WideShapes Go.ChangeAt Go.RowKit

section
variable {H : Type} {enc : TypeId × Value → H} {P : Program} {W : World} {base : Nat} {t e : TypeId} {v : Value} {d : DataW H} {p : List MemPlace}

theorem arg_strings (ht : P.underlying t = some (.slice e)) (he : P.underlying e = some .string) (hc : P.cellsOf e = 1) (hv : Value.okWide P W .any base t v) (h : DataW.Trod enc P W 0 (fun _ => true) true t v d p) :
    ∃ ss : List ByteArray, Row W 0 W.heap.size v (ss.map Value.string) ∧ ss.length ≤ maxLen ∧ ∀ s ∈ ss, s.size ≤ maxLen := by
  obtain ⟨a0, len0, cap0, rfl⟩ := okWide_slice ht hv
  obtain ⟨fuel, hf⟩ := h
  rcases open_strings ht he hc hf with ⟨hcs, _⟩ | ⟨a, len, cap, ss, hcs, _, hl, hm, hz, _, hcell, hsz⟩
  · have hcs' : Value.slice a0 len0 cap0 = .slice none 0 0 := by simpa [Value.cells] using hcs
    cases hcs'
    exact ⟨[], Row.nil_ _ _, by simp, by simp⟩
  · have hcs' : Value.slice a0 len0 cap0 = .slice (some a) len cap := by simpa [Value.cells] using hcs
    obtain ⟨rfl, rfl, rfl⟩ : a0 = some a ∧ len = len0 ∧ cap = cap0 := by cases hcs'; exact ⟨rfl, rfl, rfl⟩
    have hzl : ss.length = cap := by simpa using hz
    have hlen : (ss.take len).length = len := by rw [List.length_take]; omega
    refine ⟨ss.take len, ⟨some a, cap, by rw [List.length_map, hlen], fun j u hu => ?_⟩, by omega, fun s hs => hsz s (List.mem_of_mem_take hs)⟩
    rw [List.getElem?_map] at hu
    obtain ⟨s, hs, rfl⟩ := Option.map_eq_some_iff.1 hu
    have hj : j < len := by rw [← hlen]; exact (List.getElem?_eq_some_iff.1 hs).1
    have hs' : ss[j]? = some s := by rw [← hs, List.getElem?_take_of_lt hj]
    have hc1 := hcell j (by omega)
    rw [List.getD_eq_getElem?_getD, hs'] at hc1
    exact ⟨a, rfl, Nat.zero_le _, by have := cell_lt hc1; rwa [block_add] at this, hc1⟩

theorem arg_ints (ht : P.underlying t = some (.slice e)) (he : P.underlying e = some (.int .i64)) (hc : P.cellsOf e = 1) (hv : Value.okWide P W .any base t v) (h : DataW.Trod enc P W 0 (fun _ => true) true t v d p) :
    ∃ xs : List Int, Row W 0 W.heap.size v (xs.map (Value.int .i64)) ∧ xs.length ≤ maxLen ∧ ∀ x ∈ xs, -9223372036854775808 ≤ x ∧ x ≤ 9223372036854775807 := by
  obtain ⟨a0, len0, cap0, rfl⟩ := okWide_slice ht hv
  obtain ⟨fuel, hf⟩ := h
  rcases open_ints ht he hc hf with ⟨hcs, _⟩ | ⟨a, len, cap, ss, hcs, _, hl, hm, hz, _, hcell, hsz⟩
  · have hcs' : Value.slice a0 len0 cap0 = .slice none 0 0 := by simpa [Value.cells] using hcs
    cases hcs'
    exact ⟨[], Row.nil_ _ _, by simp, by simp⟩
  · have hcs' : Value.slice a0 len0 cap0 = .slice (some a) len cap := by simpa [Value.cells] using hcs
    obtain ⟨rfl, rfl, rfl⟩ : a0 = some a ∧ len = len0 ∧ cap = cap0 := by cases hcs'; exact ⟨rfl, rfl, rfl⟩
    have hzl : ss.length = cap := by simpa using hz
    have hlen : (ss.take len).length = len := by rw [List.length_take]; omega
    refine ⟨ss.take len, ⟨some a, cap, by rw [List.length_map, hlen], fun j u hu => ?_⟩, by omega, fun s hs => ?_⟩
    · rw [List.getElem?_map] at hu
      obtain ⟨s, hs, rfl⟩ := Option.map_eq_some_iff.1 hu
      have hj : j < len := by rw [← hlen]; exact (List.getElem?_eq_some_iff.1 hs).1
      have hs' : ss[j]? = some s := by rw [← hs, List.getElem?_take_of_lt hj]
      have hc1 := hcell j (by omega)
      rw [List.getD_eq_getElem?_getD, hs'] at hc1
      exact ⟨a, rfl, Nat.zero_le _, by have := cell_lt hc1; rwa [block_add] at this, hc1⟩
    · have := hsz s (List.mem_of_mem_take hs)
      simpa [Lit.wf, IntKind.min, IntKind.max, IntKind.signed, IntKind.bits] using this

theorem arg_bytes (ht : P.underlying t = some (.slice e)) (he : P.underlying e = some (.int .u8)) (hc : P.cellsOf e = 1) (hv : Value.okWide P W .any base t v) (h : DataW.Trod enc P W 0 (fun _ => true) true t v d p) :
    ∃ bs : List Nat, Row W 0 W.heap.size v (bs.map fun b : Nat => Value.int .u8 (b : Int)) ∧ bs.length ≤ maxLen ∧ ∀ b ∈ bs, b < 256 := by
  obtain ⟨a0, len0, cap0, rfl⟩ := okWide_slice ht hv
  obtain ⟨fuel, hf⟩ := h
  rcases open_ints ht he hc hf with ⟨hcs, _⟩ | ⟨a, len, cap, ss, hcs, _, hl, hm, hz, _, hcell, hsz⟩
  · have hcs' : Value.slice a0 len0 cap0 = .slice none 0 0 := by simpa [Value.cells] using hcs
    cases hcs'
    exact ⟨[], Row.nil_ _ _, by simp, by simp⟩
  · have hcs' : Value.slice a0 len0 cap0 = .slice (some a) len cap := by simpa [Value.cells] using hcs
    obtain ⟨rfl, rfl, rfl⟩ : a0 = some a ∧ len = len0 ∧ cap = cap0 := by cases hcs'; exact ⟨rfl, rfl, rfl⟩
    have hzl : ss.length = cap := by simpa using hz
    have hlen : (ss.take len).length = len := by rw [List.length_take]; omega
    have hr : ∀ x ∈ ss.take len, 0 ≤ x ∧ x ≤ 255 := fun x hx => by
      have := hsz x (List.mem_of_mem_take hx)
      simpa [Lit.wf, IntKind.min, IntKind.max, IntKind.signed, IntKind.bits] using this
    refine ⟨(ss.take len).map Int.toNat, ⟨some a, cap, by rw [List.length_map, List.length_map, hlen], fun j u hu => ?_⟩, by rw [List.length_map]; omega, fun s hs => ?_⟩
    · rw [List.getElem?_map, List.getElem?_map] at hu
      obtain ⟨y, hy, rfl⟩ := Option.map_eq_some_iff.1 hu
      obtain ⟨s, hs, rfl⟩ := Option.map_eq_some_iff.1 hy
      have hj : j < len := by rw [← hlen]; exact (List.getElem?_eq_some_iff.1 hs).1
      have hs' : ss[j]? = some s := by rw [← hs, List.getElem?_take_of_lt hj]
      have hc1 := hcell j (by omega)
      rw [List.getD_eq_getElem?_getD, hs'] at hc1
      have h0 := hr s (List.mem_of_getElem? hs)
      have e0 : ((s.toNat : Nat) : Int) = s := by omega
      rw [e0]
      exact ⟨a, rfl, Nat.zero_le _, by have := cell_lt hc1; rwa [block_add] at this, hc1⟩
    · obtain ⟨x, hx, rfl⟩ := List.mem_map.1 hs
      have := hr x hx
      omega
end
end Go.Proofs.YtbpfabicampdkaaGreatDoor

namespace Go.Proofs.YtbpfabicampdkaaGreatDoor
open Go.ChangeShapes Go.WideShapes Go.ChangeAt Go.RowKit Go.Joins

section
variable {H : Type} {enc : TypeId × Value → H} {P : Program} {W : World} {base : Nat} {t e : TypeId}

/-- the cell of a slice of ints, wherever it stands -/
theorem cell_ints {fuel : Nat} {a0 : Option Addr} {len0 cap0 : Nat} {x : DataW H × List MemPlace} (ht : P.underlying t = some (.slice e)) (he : P.underlying e = some (.int .i64)) (hc : P.cellsOf e = 1)
    (hf : DataW.trod enc P W 0 (fun _ => true) true fuel t [.slice a0 len0 cap0] = some x) :
    ∃ xs : List Int, Row W 0 W.heap.size (.slice a0 len0 cap0) (xs.map (Value.int .i64)) ∧ xs.length ≤ maxLen := by
  rcases open_ints ht he hc hf with ⟨hcs, _⟩ | ⟨a, len, cap, ss, hcs, _, hl, hm, hz, _, hcell, hsz⟩
  · have hcs' : Value.slice a0 len0 cap0 = .slice none 0 0 := by simpa using hcs
    cases hcs'
    exact ⟨[], Row.nil_ _ _, by simp⟩
  · have hcs' : Value.slice a0 len0 cap0 = .slice (some a) len cap := by simpa using hcs
    obtain ⟨rfl, rfl, rfl⟩ : a0 = some a ∧ len = len0 ∧ cap = cap0 := by cases hcs'; exact ⟨rfl, rfl, rfl⟩
    have hzl : ss.length = cap := by simpa using hz
    have hlen : (ss.take len).length = len := by rw [List.length_take]; omega
    refine ⟨ss.take len, ⟨some a, cap, by rw [List.length_map, hlen], fun j u hu => ?_⟩, by omega⟩
    rw [List.getElem?_map] at hu
    obtain ⟨s, hs, rfl⟩ := Option.map_eq_some_iff.1 hu
    have hj : j < len := by rw [← hlen]; exact (List.getElem?_eq_some_iff.1 hs).1
    have hs' : ss[j]? = some s := by rw [← hs, List.getElem?_take_of_lt hj]
    have hc1 := hcell j (by omega)
    rw [List.getD_eq_getElem?_getD, hs'] at hc1
    exact ⟨a, rfl, Nat.zero_le _, by have := cell_lt hc1; rwa [block_add] at this, hc1⟩
end

theorem Tryz.cellsSigned : Tryz.prog.cellsOf 161 = 2 := by kernel_rfl
theorem Tryz.cellsInt1 : Tryz.prog.cellsOf 3 = 1 := by kernel_rfl
set_option maxHeartbeats 400000 in
set_option maxRecDepth 100000 in
theorem arg_signed {H : Type} {enc : TypeId × Value → H} {W : World} {base : Nat} {v : Value} {d : DataW H} {p : List MemPlace}
    (hv : Value.okWide Tryz.prog W .any base 161 v) (h : DataW.Trod enc Tryz.prog W 0 (fun _ => true) true 161 v d p) : ∃ x : SI, RdS W v x ∧ x.2.length ≤ maxLen := by
  obtain ⟨c0, c1, y0, y1, m, rfl, rfl, rfl, hy0, hy1⟩ := open_agg2 Tryz.underlying161 (by kernel_rfl) Tryz.cellsSigned hv h
  obtain ⟨b, e0, rfl⟩ := DataW.trod_bool Tryz.underlying4 hy0
  obtain ⟨a, l, c, e1⟩ := slice_form Tryz.underlying28 hy1
  simp at e0 e1
  subst e0 e1
  obtain ⟨xs, hr, hl⟩ := cell_ints Tryz.underlying28 Tryz.underlying3 Tryz.cellsInt1 hy1
  exact ⟨(b, xs), ⟨_, rfl, hr⟩, hl⟩
end Go.Proofs.YtbpfabicampdkaaGreatDoor

namespace Go.Proofs.YtbpfabicampdkaaGreatDoor
open Go.ChangeShapes Go.WideShapes Go.ChangeAt Go.RowKit Go.Joins

theorem Tryz.cellsRate : Tryz.prog.cellsOf 165 = 5 := by kernel_rfl
/-- five cells that read as a rate -/
theorem rate_cells {H : Type} {enc : TypeId × Value → H} {W : World} {fuel : Nat} {c0 c1 c2 c3 c4 : Value} {y : DataW H × List MemPlace}
    (hf : DataW.trod enc Tryz.prog W 0 (fun _ => true) true fuel 165 [c0, c1, c2, c3, c4] = some y) :
    ∃ x : EI, ∃ u, c0 = .string x.1 ∧ c1 = .string x.2.1 ∧ c2 = .bool x.2.2.1.1 ∧ c3 = u ∧ c4 = .int .i64 x.2.2.2 ∧ Row W 0 W.heap.size u (intsV x.2.2.1.2) ∧ x.1.size ≤ maxLen ∧ x.2.1.size ≤ maxLen ∧ x.2.2.1.2.length ≤ maxLen := by
  obtain ⟨y0, y1, y2, n, hx, _, h0, h1, h2⟩ := Go.Deep.trod_struct3 Tryz.underlying165 hf
  have kd : Tryz.prog.cellsOf 163 = 3 := by kernel_rfl
  have ks : Tryz.prog.cellsOf 161 = 2 := Tryz.cellsSigned
  have ki : Tryz.prog.cellsOf 28 = 1 := by kernel_rfl
  have kn : Tryz.prog.cellsOf 3 = 1 := Tryz.cellsInt1
  have kt : Tryz.prog.cellsOf 9 = 1 := by kernel_rfl
  have kb : Tryz.prog.cellsOf 4 = 1 := by kernel_rfl
  simp only [kd, kt, List.drop_zero, List.take_succ_cons, List.take_zero, List.drop_succ_cons] at h0 h1 h2
  obtain ⟨z0, z1, m, _, _, g0, g1⟩ := trod_struct2 Tryz.underlying163 h2
  simp only [ks, kn, List.drop_zero, List.take_succ_cons, List.take_zero, List.drop_succ_cons] at g0 g1
  obtain ⟨q0, q1, m2, _, _, k0, k1⟩ := trod_struct2 Tryz.underlying161 g0
  simp only [kb, ki, List.drop_zero, List.take_succ_cons, List.take_zero, List.drop_succ_cons] at k0 k1
  obtain ⟨s0, e0, _, hs0⟩ := DataW.trod_string Tryz.underlying9 h0
  obtain ⟨s1, e1, _, hs1⟩ := DataW.trod_string Tryz.underlying9 h1
  obtain ⟨b, e2, _⟩ := DataW.trod_bool Tryz.underlying4 k0
  obtain ⟨a1, l1, cc1, e3⟩ := slice_form Tryz.underlying28 k1
  obtain ⟨k, e4, _, _⟩ := DataW.trod_int Tryz.underlying3 g1
  simp at e0 e1 e2 e3 e4
  subst e0 e1 e2 e3 e4
  obtain ⟨xs, hr, hl⟩ := cell_ints Tryz.underlying28 Tryz.underlying3 Tryz.cellsInt1 k1
  exact ⟨(s0, s1, (b, xs), k), _, rfl, rfl, rfl, rfl, rfl, hr, hs0, hs1, hl⟩
theorem array5 {α : Type} {a : Array α} (h : a.size = 5) : ∃ x0 x1 x2 x3 x4, a = #[x0, x1, x2, x3, x4] := by
  obtain ⟨l⟩ := a
  match l, h with
  | [x0, x1, x2, x3, x4], _ => exact ⟨x0, x1, x2, x3, x4, rfl⟩
set_option maxHeartbeats 400000 in
set_option maxRecDepth 100000 in
theorem arg_rate {H : Type} {enc : TypeId × Value → H} {W : World} {base : Nat} {v : Value} {d : DataW H} {p : List MemPlace}
    (hv : Value.okWide Tryz.prog W .any base 165 v) (h : DataW.Trod enc Tryz.prog W 0 (fun _ => true) true 165 v d p) : ∃ x : EI, RdE W v x ∧ x.1.size ≤ maxLen ∧ x.2.1.size ≤ maxLen ∧ x.2.2.1.2.length ≤ maxLen := by
  obtain ⟨cs, rfl, hsz⟩ := okWide_struct Tryz.underlying165 hv
  obtain ⟨c0, c1, c2, c3, c4, rfl⟩ := array5 (hsz.trans Tryz.cellsRate)
  obtain ⟨fuel, hf⟩ := h
  obtain ⟨x, u, rfl, rfl, rfl, rfl, rfl, hr, h1, h2, h3⟩ := rate_cells (by simpa [Value.cells] using hf)
  exact ⟨x, ⟨_, rfl, hr⟩, h1, h2, h3⟩
theorem cells_five {w : World} {base : Nat} {a : Addr} {cs : List Value} (h : w.cells? base a 5 = some cs) : ∃ c0 c1 c2 c3 c4, cs = [c0, c1, c2, c3, c4] ∧ w.cell? a = some c0 ∧ w.cell? ⟨a.block, a.off + 1, none⟩ = some c1 ∧ w.cell? ⟨a.block, a.off + 2, none⟩ = some c2 ∧ w.cell? ⟨a.block, a.off + 3, none⟩ = some c3 ∧ w.cell? ⟨a.block, a.off + 4, none⟩ = some c4 := by
  unfold World.cells? at h
  split at h
  · rw [show List.range 5 = [0, 1, 2, 3, 4] from rfl] at h
    simp only [List.mapM_cons, List.mapM_nil, Option.bind_eq_bind, Option.pure_def, Option.bind_eq_some_iff, Option.some.injEq] at h
    obtain ⟨c0, h0, r, ⟨c1, h1, r2, ⟨c2, h2, r3, ⟨c3, h3, r4, ⟨c4, h4, s, rfl, rfl⟩, rfl⟩, rfl⟩, rfl⟩, rfl⟩ := h
    exact ⟨c0, c1, c2, c3, c4, rfl, by simpa [Addr.add] using h0, by simpa [Addr.add] using h1, by simpa [Addr.add] using h2, by simpa [Addr.add] using h3, by simpa [Addr.add] using h4⟩
  · cases h
/-- what an element of a list reads as -/
def EachE (W : World) (a : Addr) (i : Nat) (x : EI) : Prop := ∃ u, a.block < W.heap.size ∧ W.cell? (a.add (i * 5)) = some (.string x.1) ∧ W.cell? ⟨(a.add (i * 5)).block, (a.add (i * 5)).off + 1, none⟩ = some (.string x.2.1) ∧ W.cell? ⟨(a.add (i * 5)).block, (a.add (i * 5)).off + 2, none⟩ = some (.bool x.2.2.1.1) ∧ W.cell? ⟨(a.add (i * 5)).block, (a.add (i * 5)).off + 3, none⟩ = some u ∧ W.cell? ⟨(a.add (i * 5)).block, (a.add (i * 5)).off + 4, none⟩ = some (.int .i64 x.2.2.2) ∧ Row W 0 W.heap.size u (intsV x.2.2.1.2) ∧ capE x
set_option maxHeartbeats 400000 in
set_option maxRecDepth 100000 in
theorem cell_rates {H : Type} {enc : TypeId × Value → H} {W : World} {fuel : Nat} {a0 : Option Addr} {len0 cap0 : Nat} {y : DataW H × List MemPlace}
    (hf : DataW.trod enc Tryz.prog W 0 (fun _ => true) true fuel 58 [.slice a0 len0 cap0] = some y) : ∃ l : List EI, RdEL W (.slice a0 len0 cap0) l ∧ l.length ≤ maxLen ∧ ∀ x ∈ l, capE x := by
  rcases DataW.trod_slice Tryz.underlying58 hf with ⟨hcs, _⟩ | ⟨a, len, cap, elems, rest, n, _, hcs, _, _, hl, hm, hel, hcell, _, _⟩
  · have hcs' : Value.slice a0 len0 cap0 = .slice none 0 0 := by simpa [Value.cells] using hcs
    cases hcs'
    exact ⟨[], ⟨_, _, rfl, fun j x hj => by simp at hj⟩, by simp, fun x hx => by cases hx⟩
  · have hcs' : Value.slice a0 len0 cap0 = .slice (some a) len cap := by simpa [Value.cells] using hcs
    obtain ⟨rfl, rfl, rfl⟩ : a0 = some a ∧ len = len0 ∧ cap = cap0 := by cases hcs'; exact ⟨rfl, rfl, rfl⟩
    have each : ∀ i, i < len → ∃ x : EI, EachE W a i x := by
      intro i hi
      have hc := hcell i hi
      rw [Tryz.cellsRate, List.getElem?_eq_getElem (by omega), Option.bind_eq_some_iff] at hc
      obtain ⟨cs, hcs, hd⟩ := hc
      obtain ⟨c0, c1, c2, c3, c4, rfl, h0, h1, h2, h3, h4⟩ := cells_five hcs
      obtain ⟨x, u, rfl, rfl, rfl, rfl, rfl, hr, hs, hs2, hxl⟩ := rate_cells hd
      exact ⟨x, _, by have := cell_lt h0; rwa [block_add] at this, h0, h1, h2, h3, h4, hr, by unfold maxLen at hs hs2 hxl; unfold capE; omega⟩
    obtain ⟨f, hF⟩ : ∃ f : Nat → EI, ∀ i, i < len → EachE W a i (f i) := by
      refine ⟨fun i => if h : i < len then Classical.choose (each i h) else (⟨#[]⟩, ⟨#[]⟩, (false, []), 0), fun i hi => ?_⟩
      simp only [dif_pos hi]
      exact Classical.choose_spec (each i hi)
    have hlen : ((List.range len).map f).length = len := by simp
    refine ⟨(List.range len).map f, ⟨some a, cap, by rw [hlen], fun j x hj => ?_⟩, by rw [hlen]; omega, fun x hx => ?_⟩
    · have hjl : j < len := by rw [← hlen]; exact (List.getElem?_eq_some_iff.1 hj).1
      have hx : x = f j := by
        rw [List.getElem?_map, List.getElem?_range hjl] at hj
        simpa using hj.symm
      subst hx
      obtain ⟨u, h1, h2, h3, h4, h5, h6, h7, _⟩ := hF j hjl
      exact ⟨a, u, rfl, h1, h2, h3, h4, h5, h6, h7⟩
    · obtain ⟨i, hi, rfl⟩ := List.mem_map.1 hx
      obtain ⟨_, _, _, _, _, _, _, _, h5⟩ := hF i (by simpa using hi)
      exact h5
theorem Tryz.cellsRates : Tryz.prog.cellsOf 60 = 2 := by kernel_rfl
set_option maxHeartbeats 400000 in
set_option maxRecDepth 100000 in
theorem arg_rates {H : Type} {enc : TypeId × Value → H} {W : World} {base : Nat} {v : Value} {d : DataW H} {p : List MemPlace}
    (hv : Value.okWide Tryz.prog W .any base 60 v) (h : DataW.Trod enc Tryz.prog W 0 (fun _ => true) true 60 v d p) : ∃ x : TI, RdT W v x ∧ capT x := by
  obtain ⟨cs, rfl, hsz⟩ := okWide_struct Tryz.underlying60 hv
  obtain ⟨c0, c1, rfl⟩ := array2 (hsz.trans Tryz.cellsRates)
  obtain ⟨fuel, hf⟩ := h
  obtain ⟨y0, y1, n, hx, _, h0, h1⟩ := trod_struct2 Tryz.underlying60 hf
  have kt : Tryz.prog.cellsOf 9 = 1 := by kernel_rfl
  have kl : Tryz.prog.cellsOf 58 = 1 := by kernel_rfl
  simp only [Value.cells, kt, kl, List.drop_zero, List.take_succ_cons, List.take_zero, List.drop_succ_cons] at h0 h1
  obtain ⟨s, e0, _, hs⟩ := DataW.trod_string Tryz.underlying9 h0
  obtain ⟨a1, l1, cc1, e1⟩ := slice_form Tryz.underlying58 h1
  simp at e0 e1
  subst e0 e1
  obtain ⟨l, hr, hl, hx⟩ := cell_rates h1
  exact ⟨(s, l), ⟨_, rfl, hr⟩, by unfold maxLen at hs; exact hs, by unfold maxLen at hl; exact hl, hx⟩
end Go.Proofs.YtbpfabicampdkaaGreatDoor

namespace Go.Proofs.YtbpfabicampdkaaGreatDoor
open Go.ChangeShapes Go.WideShapes Go.ChangeAt Go.RowKit

theorem trodVars_length {H : Type} {enc : TypeId × Value → H} {P : Program} {w : World} {sp : Nat → Bool} : ∀ {ns : List String} {gs : List (DataW H)} {ps : List MemPlace}, DataW.TrodVars enc P w sp ns gs ps → gs.length = ns.length
  | [], [], _, _ => rfl
  | [], _ :: _, _, h => h.elim
  | _ :: _, [], _, h => h.elim
  | _ :: _, _ :: _, _, h => by
    obtain ⟨_, _, _, _, _, q, _, _, _, _, h5, _⟩ := h
    simp [trodVars_length h5]

/-- the post of a law that names variables -/
theorem law_postV {H : Type} {enc : TypeId × Value → H} {f : Func} {s : ChangeSpec} {tb : TypeId} {W W' : World} {args : Array Value} {ds gs : List (DataW H)} {before : List MemPlace}
    (hr : legible Tryz.prog f.params.toList = true) (hty : f.resultTypes = #[tb]) (htb : Tryz.prog.underlying tb = some .bool) (hv : varsRowed Tryz.prog s.vars = true)
    (hfn : ∀ gs : List (DataW H), gs.length = s.vars.length → s.fn H (ds ++ gs) = { results := [.lit (.bool true)], args := ds, vars := gs })
    (hW : DataW.Whole enc Tryz.prog f.params.toList s.vars false W args.toList ds gs before) (hb : Below W.heap.size W W') :
    s.post enc Tryz.prog f false true false false W args (.bool true) W' := by
  have hW' := hW
  obtain ⟨p, q, hA, hV, rfl, _, _⟩ := hW
  have hlt : ∀ x ∈ p, x.block < W.heap.size := fun x hx => hW'.lt x (by simp [hx])
  have e := hfn gs (trodVars_length hV)
  refine ⟨ds, gs, _, [], p, q, hW', ?_, ?_, ?_, hb.frame _, fun h => by cases h⟩
  · rw [e, hty]
    exact trodAll_mk1 (shut_bool htb _)
  · rw [e]
    exact args_below Tryz.laidOut hb hr hA hlt
  · rw [e]
    exact Below.trodVars Tryz.laidOut hb hv hV

set_option maxRecDepth 100000 in
/-- from the walk at every argument, the listed variables at hand, to the lifted row -/
theorem law_lifted_vars {H : Type} {enc : TypeId × Value → H} {os : Os} (started : os.Started) {F : Stop.Interp} {f : FuncId} {fn : Func} {s : ChangeSpec} {conds : List PathCond} {tb : TypeId} {laidL : List (String × DataW Unit)}
    (noInit : Tryz.prog.inits.idxOf? f = none) (hfun : Tryz.prog.funcs[f]? = some fn)
    (hr : legible Tryz.prog fn.params.toList = true) (hty : fn.resultTypes = #[tb]) (htb : Tryz.prog.underlying tb = some .bool) (hv : varsRowed Tryz.prog s.vars = true)
    (witness : ∃ (w : World) (tape : Tape) (i : Input), w.os = os ∧ (w.forCall tape i).Shaped Tryz.checked.prog ∧ i.vars = [] ∧ Input.okWide Tryz.checked.prog (w.forCall tape i) .any w.heap.size f i ∧
      (OpenSpec.ofChange s).preRow enc Tryz.checked.prog fn conds false laidL (w.forCall tape i).memory i.args ∧ Assume.holds {} Tryz.checked.prog (lone (Frame.enter Tryz.checked.prog f i.args .normal) [] (w.forCall tape i)))
    (walk : ∀ (W : World) (base : Nat) (args : Array Value) (ds : List (DataW H)) (p : List MemPlace),
      (∀ (j : Nat) t v, fn.params[j]? = some t → args[j]? = some v → Value.okWide Tryz.prog W .any base t v) →
      DataW.TrodAll enc Tryz.prog W 0 (fun _ => true) true fn.params.toList args.toList ds p → (∀ x ∈ p, x.block < W.heap.size) → laidMetH Tryz.prog laidL W →
      (∀ gs : List (DataW H), gs.length = s.vars.length → s.fn H (ds ++ gs) = { results := [.lit (.bool true)], args := ds, vars := gs }) ∧ Calls Tryz.prog f args W fun e W' => e = .returned (.bool true) ∧ Below W.heap.size W W') :
    ReturnsInHanded {} Tryz.checked os f .any ((OpenSpec.ofChange s).preRow enc Tryz.prog fn conds false laidL) (((OpenSpec.ofChange s).at F).post enc Tryz.prog fn false true false false) := by
  refine returnsInHanded_of_row (C := Tryz.checked) (s := OpenSpec.ofChange s) Tryz.own started noInit hfun witness ?_
  intro W base args ds gs before hval hW0 _ _ _ hL _ _
  have hW : DataW.Whole enc Tryz.prog fn.params.toList s.vars false W args.toList ds gs before := hW0
  have hW' := hW
  obtain ⟨p, q, hA, hV, rfl, _, _⟩ := hW
  obtain ⟨hfn, hc⟩ := walk W base args ds p hval hA (fun x hx => hW'.lt x (by simp [hx])) hL
  refine hc.mono fun e W' ⟨he, hb⟩ => ?_
  subst he
  exact ⟨_, rfl, law_postV hr hty htb hv hfn hW' hb⟩
end Go.Proofs.YtbpfabicampdkaaGreatDoor

namespace Go.Proofs.YtbpfabicampdkaaGreatDoor
open Go.ChangeShapes Go.WideShapes Go.ChangeAt Go.RowKit

def dataC (r : CR) : DataW Unit := .agg [.lit (.string r.1.data.toList), .lit (.string r.2.1.data.toList), .lit (.int .i64 r.2.2.1), .lit (.int .i64 r.2.2.2)]
theorem curData : (Rows.laid_loop_example_g00793_impl_currencies : DataW Unit) = .agg (implT.map dataC) := by kernel_rfl
theorem curType : (Tryz.prog.globals[1]?).map (·.type) = some 201 := by kernel_rfl
theorem curCells : Tryz.prog.cellsOf 201 = 80 := by kernel_rfl
theorem rowCells : Tryz.prog.cellsOf 156 = 4 := by kernel_rfl
theorem strCellsC : Tryz.prog.cellsOf 9 = 1 := by kernel_rfl
theorem intCellsC : Tryz.prog.cellsOf 3 = 1 := by kernel_rfl
theorem data_inj {a b : ByteArray} (h : a.data.toList = b.data.toList) : a = b := by
  cases a with
  | mk x =>
    cases b with
    | mk y => exact congrArg ByteArray.mk (Array.toList_inj.1 h)
set_option maxHeartbeats 400000 in
set_option maxRecDepth 100000 in
theorem row_read {fuel : Nat} {W : World} {cs : List Value} {r : CR} {p : List MemPlace}
    (h : DataW.trod (fun _ => ()) Tryz.prog W 0 (fun _ => true) false fuel 156 cs = some (dataC r, p)) : cs = cellsC r := by
  obtain ⟨xs, n, rfl, hx, hl, hxl, hall⟩ := DataW.trod_struct Tryz.underlying156 h
  rw [rowCells] at hl
  have h0 : DataW.trod (fun _ => ()) Tryz.prog W 0 (fun _ => true) false n 9 ((cs.drop 0).take (Tryz.prog.cellsOf 9)) = xs[0]? := hall 0 _ rfl
  have h1 : DataW.trod (fun _ => ()) Tryz.prog W 0 (fun _ => true) false n 9 ((cs.drop 1).take (Tryz.prog.cellsOf 9)) = xs[1]? := hall 1 _ rfl
  have h2 : DataW.trod (fun _ => ()) Tryz.prog W 0 (fun _ => true) false n 3 ((cs.drop 2).take (Tryz.prog.cellsOf 3)) = xs[2]? := hall 2 _ rfl
  have h3 : DataW.trod (fun _ => ()) Tryz.prog W 0 (fun _ => true) false n 3 ((cs.drop 3).take (Tryz.prog.cellsOf 3)) = xs[3]? := hall 3 _ rfl
  rw [strCellsC] at h0 h1
  rw [intCellsC] at h2 h3
  match cs, hl with
  | [c0, c1, c2, c3], _ =>
    match xs, hxl with
    | [x0, x1, x2, x3], _ =>
      obtain ⟨s0, e0, k0, _⟩ := DataW.trod_string Tryz.underlying9 h0
      obtain ⟨s1, e1, k1, _⟩ := DataW.trod_string Tryz.underlying9 h1
      obtain ⟨n2, e2, k2, _⟩ := DataW.trod_int Tryz.underlying3 h2
      obtain ⟨n3, e3, k3, _⟩ := DataW.trod_int Tryz.underlying3 h3
      simp at e0 e1 e2 e3
      subst e0 e1 e2 e3 k0 k1 k2 k3
      have hx1 := congrArg Prod.fst hx
      simp only [dataC, List.map_cons, List.map_nil, DataW.agg.injEq, List.cons.injEq, DataW.lit.injEq, Lit.string.injEq, Lit.int.injEq, true_and, and_true] at hx1
      obtain ⟨y0, y1, y2, y3⟩ := hx1
      unfold cellsC
      rw [data_inj y0, data_inj y1, y2, y3]
theorem cellsT_length : ∀ l : List CR, (cellsT l).length = l.length * 4
  | [] => rfl
  | r :: l => by
    rw [show cellsT (r :: l) = cellsC r ++ cellsT l by simp [cellsT], List.length_append, cellsT_length l]
    simp [cellsC]
    omega
theorem curTab_of {l : List (String × DataW Unit)} {W : World} (h : laidMet Tryz.prog l W) (hm : ("loop.example/g00793/impl.currencies", (Rows.laid_loop_example_g00793_impl_currencies : DataW Unit)) ∈ l) : CurTab W := by
  obtain ⟨g, t, cs, fuel, p, hg, ht, hvar, hd⟩ := Lib.laidMet.reads h hm
  obtain rfl := Option.some.inj (curNamed.symm.trans hg)
  obtain rfl := Option.some.inj (curType.symm.trans ht)
  rw [curData] at hd
  unfold CurTab
  rw [hvar]
  have hlen : cs.toList.length = 80 := by
    cases fuel with
    | zero => simp [DataW.trod] at hd
    | succ fuel =>
      simp only [DataW.trod, Tryz.underlying201, curCells] at hd
      split at hd
      · assumption
      · cases hd
  have hrow : ∀ i (hi : i < implT.length), (cs.toList.drop (i * 4)).take 4 = cellsC implT[i] := fun i hi => by
    obtain ⟨fuel', d, q, hdi, he⟩ := Lib.array_elem Tryz.underlying201 hd i hi
    rw [List.getElem?_map, List.getElem?_eq_getElem hi] at hdi
    obtain rfl := Option.some.inj hdi
    rw [rowCells] at he
    exact row_read he
  congr 1
  apply Array.toList_inj.1
  apply List.ext_getElem?
  intro m
  by_cases hlt : m < 80
  · have hi : m / 4 < implT.length := by rw [implT_len]; omega
    have e := congrArg (·[m % 4]?) (hrow (m / 4) hi)
    have hj : m % 4 < 4 := Nat.mod_lt _ (by decide)
    simp only [List.getElem?_take, List.getElem?_drop, hj, if_true] at e
    rw [← cellsT_get implT (m / 4) (m % 4) hi hj, show m / 4 * 4 + m % 4 = m by omega] at e
    simpa using e
  · rw [List.getElem?_eq_none (by omega), List.getElem?_eq_none (by simp [cellsT_length, implT_len]; omega)]
end Go.Proofs.YtbpfabicampdkaaGreatDoor

namespace Go.Proofs.YtbpfabicampdkaaGreatDoor
open Go.ChangeShapes Go.WideShapes Go.ChangeAt Go.RowKit

def putC (cs : Array Value) : Obj → Obj
  | .cells _ t frozen => .cells cs t frozen
  | o => o
noncomputable def curWorld (os : Os) : World :=
  { World.holding Tryz.prog os ⟨#[], #[], []⟩ with heap := (World.holding Tryz.prog os ⟨#[], #[], []⟩).heap.modify 1 (putC (cellsT implT).toArray) }
end Go.Proofs.YtbpfabicampdkaaGreatDoor

namespace Go.Proofs.YtbpfabicampdkaaGreatDoor
open Go.ChangeShapes Go.WideShapes Go.ChangeAt Go.RowKit

theorem senNamed : Tryz.prog.globalNamed "loop.example/g00793/impl.errZeroDivisor" = some 0 := by kernel_rfl
theorem senType : (Tryz.prog.globals[0]?).map (·.type) = some 180 := by kernel_rfl
theorem senCells : Tryz.prog.cellsOf 291 = 1 := by kernel_rfl
theorem strCells : Tryz.prog.cellsOf 9 = 1 := by kernel_rfl
theorem senStar : "*" ++ "errors.errorString" = "*errors.errorString" := by decide
theorem senRow (u : TypeId) (h : Tryz.prog.typeName? 3 u = some "*errors.errorString") : u = 269 :=
  typeName_ptr_named (nm := "errors.errorString") (by rw [senStar]; kernel_rfl) (by kernel_rfl) (by decide) u (by rw [senStar]; exact h)
/-- what the sentinel reads as -/
def senText : List UInt8 := [100, 105, 118, 105, 115, 105, 111, 110, 32, 98, 121, 32, 122, 101, 114, 111]
theorem senData : (Rows.laid_loop_example_g00793_impl_errZeroDivisor : DataW Unit) = .iface "*errors.errorString" (.ptr (.agg [.lit (.string senText)])) := by kernel_rfl
/-- the variable's value -/
def SenAt (a : Addr) (w : World) : Prop := w.var? Tryz.prog "loop.example/g00793/impl.errZeroDivisor" = some #[.iface 269 (.pointer (some a))]
theorem SenAt.sen {a : Addr} {w : World} (h : SenAt a w) : Sen w := ⟨a, by simpa using World.var?_cell senNamed h 0⟩
theorem sen_of {r : List (String × DataW Unit)} {W : World} (h : laidMet Tryz.prog (("loop.example/g00793/impl.errZeroDivisor", Rows.laid_loop_example_g00793_impl_errZeroDivisor) :: r) W) : ∃ a, SenAt a W := by
  rw [senData] at h
  obtain ⟨a, s, hv, _⟩ := laid_sentinel h senNamed senType Tryz.underlying180 senRow Tryz.underlying269 Tryz.underlying291 rfl rfl Tryz.underlying9 senCells strCells
  exact ⟨a, hv⟩
theorem SenAt.below {a : Addr} {w w' : World} (h : SenAt a w) (hb : Below w.heap.size w w') : SenAt a w' := by
  obtain ⟨_, hc⟩ := h.sen
  have hl := cell_lt hc
  unfold SenAt World.var? at h ⊢
  rw [senNamed] at h ⊢
  simp only [Option.bind_some] at h ⊢
  rw [hb.block _ hl]
  exact h

/-- the post of a law that names the sentinel -/
theorem law_post1 {H : Type} {enc : TypeId × Value → H} {f : Func} {s : ChangeSpec} {tb : TypeId} {a : Addr} {W W' : World} {args : Array Value} {ds gs : List (DataW H)} {before : List MemPlace}
    (hr : legible Tryz.prog f.params.toList = true) (hty : f.resultTypes = #[tb]) (htb : Tryz.prog.underlying tb = some .bool) (hvars : s.vars = ["loop.example/g00793/impl.errZeroDivisor"])
    (hs : SenAt a W) (hfn : ∀ g, s.fn H (ds ++ [g]) = { results := [.lit (.bool true)], args := ds, vars := [g] })
    (hW : DataW.Whole enc Tryz.prog f.params.toList s.vars false W args.toList ds gs before) (hb : Below W.heap.size W W') :
    s.post enc Tryz.prog f false true false false W args (.bool true) W' := by
  have hW' := hW
  obtain ⟨p, q, hA, hV, rfl, _, _⟩ := hW
  rw [hvars] at hV
  have vr : ∀ {X : World}, SenAt a X → ∀ sp : Nat → Bool, DataW.TrodVars enc Tryz.prog X sp ["loop.example/g00793/impl.errZeroDivisor"] [tok enc (.iface 269 (.pointer (some a)))] [.cell 0 0] :=
    fun x0 sp => vars_read1 enc senNamed senType Tryz.underlying180 x0 trivial sp
  obtain ⟨rfl, rfl⟩ := hV.unique (vr hs _)
  have hlt : ∀ x ∈ p, x.block < W.heap.size := fun x hx => hW'.lt x (by simp [hx])
  refine ⟨ds, _, _, [], p, [.cell 0 0], hW', ?_, ?_, ?_, hb.frame _, fun h => by cases h⟩
  · rw [hfn, hty]
    exact trodAll_mk1 (shut_bool htb _)
  · rw [hfn]
    exact args_below Tryz.laidOut hb hr hA hlt
  · rw [hfn, hvars]
    exact vr (hs.below hb) _

/-- a world for the witness: the settled one, the listed variable holding what its initialiser lays -/
def putSen (cs : Array Value) : Obj → Obj
  | .cells _ t frozen => .cells cs t frozen
  | o => o
noncomputable def low : Nat := (World.holding Tryz.prog default ⟨#[], #[], []⟩).heap.size
noncomputable def senWorld (os : Os) : World :=
  let w0 := World.holding Tryz.prog os ⟨#[.cells #[.string ⟨senText.toArray⟩] 291], #[], []⟩
  { w0 with heap := w0.heap.modify 0 (putSen #[.iface 269 (.pointer (some ⟨low, 0, none⟩))]) }

set_option maxRecDepth 100000 in
/-- from the walk at every argument, the listed variables at hand, to the lifted row -/
theorem law_lifted_sen {H : Type} {enc : TypeId × Value → H} {os : Os} (started : os.Started) {F : Stop.Interp} {f : FuncId} {fn : Func} {s : ChangeSpec} {conds : List PathCond} {tb : TypeId} {laidL : List (String × DataW Unit)}
    (noInit : Tryz.prog.inits.idxOf? f = none) (hfun : Tryz.prog.funcs[f]? = some fn)
    (hr : legible Tryz.prog fn.params.toList = true) (hty : fn.resultTypes = #[tb]) (htb : Tryz.prog.underlying tb = some .bool) (hvars : s.vars = ["loop.example/g00793/impl.errZeroDivisor"])
    (hsen : ∀ W, laidMetH Tryz.prog laidL W → ∃ a, SenAt a W)
    (witness : ∃ (w : World) (tape : Tape) (i : Input), w.os = os ∧ (w.forCall tape i).Shaped Tryz.checked.prog ∧ i.vars = [] ∧ Input.okWide Tryz.checked.prog (w.forCall tape i) .any w.heap.size f i ∧
      (OpenSpec.ofChange s).preRow enc Tryz.checked.prog fn conds false laidL (w.forCall tape i).memory i.args ∧ Assume.holds {} Tryz.checked.prog (lone (Frame.enter Tryz.checked.prog f i.args .normal) [] (w.forCall tape i)))
    (walk : ∀ (W : World) (base : Nat) (args : Array Value) (ds : List (DataW H)) (p : List MemPlace),
      (∀ (j : Nat) t v, fn.params[j]? = some t → args[j]? = some v → Value.okWide Tryz.prog W .any base t v) →
      DataW.TrodAll enc Tryz.prog W 0 (fun _ => true) true fn.params.toList args.toList ds p → (∀ x ∈ p, x.block < W.heap.size) → laidMetH Tryz.prog laidL W → Sen W →
      (∀ g, s.fn H (ds ++ [g]) = { results := [.lit (.bool true)], args := ds, vars := [g] }) ∧ Calls Tryz.prog f args W fun e W' => e = .returned (.bool true) ∧ Below W.heap.size W W') :
    ReturnsInHanded {} Tryz.checked os f .any ((OpenSpec.ofChange s).preRow enc Tryz.prog fn conds false laidL) (((OpenSpec.ofChange s).at F).post enc Tryz.prog fn false true false false) := by
  refine returnsInHanded_of_row (C := Tryz.checked) (s := OpenSpec.ofChange s) Tryz.own started noInit hfun witness ?_
  intro W base args ds gs before hval hW0 _ _ _ hL _ _
  have hW : DataW.Whole enc Tryz.prog fn.params.toList s.vars false W args.toList ds gs before := hW0
  have hW' := hW
  obtain ⟨p, q, hA, hV, rfl, _, _⟩ := hW
  obtain ⟨a, ha⟩ := hsen W hL
  obtain ⟨hfn, hc⟩ := walk W base args ds p hval hA (fun x hx => hW'.lt x (by simp [hx])) hL ha.sen
  refine hc.mono fun e W' ⟨he, hb⟩ => ?_
  subst he
  exact ⟨_, rfl, law_post1 hr hty htb hvars ha hfn hW' hb⟩
end Go.Proofs.YtbpfabicampdkaaGreatDoor

namespace Go.Proofs.YtbpfabicampdkaaGreatDoor
open Go.ChangeShapes Go.WideShapes Go.ChangeAt Go.RowKit

noncomputable def curSenWorld (os : Os) : World :=
  { senWorld os with heap := (senWorld os).heap.modify 1 (putC (cellsT implT).toArray) }
end Go.Proofs.YtbpfabicampdkaaGreatDoor
