/-
  The table of currencies as a row lists it: from the listed reading to its cells.
-/
import Derived.Test.YtgejjiiaimddaaaDoorCurImpl
import Derived.Test.YtgejjiiaimddaaaDoorVarLaw
namespace Go.Proofs.YtgejjiiaimddaaaDoor
open Go.ChangeShapes Go.WideShapes Go.ChangeAt Go.RowKit

def dataC (r : CR) : DataW Unit := .agg [.lit (.string r.1.data.toList), .lit (.string r.2.1.data.toList), .lit (.int .i64 r.2.2.1), .lit (.int .i64 r.2.2.2)]
theorem curData : (Rows.laid_loop_example_g00793_impl_currencies : DataW Unit) = .agg (implT.map dataC) := by kernel_rfl
theorem curType : (Tryd.prog.globals[0]?).map (·.type) = some 49 := by kernel_rfl
theorem curCells : Tryd.prog.cellsOf 49 = 80 := by kernel_rfl
theorem rowCells : Tryd.prog.cellsOf 37 = 4 := by kernel_rfl
theorem strCellsC : Tryd.prog.cellsOf 9 = 1 := by kernel_rfl
theorem intCellsC : Tryd.prog.cellsOf 3 = 1 := by kernel_rfl
theorem data_inj {a b : ByteArray} (h : a.data.toList = b.data.toList) : a = b := by
  cases a with
  | mk x =>
    cases b with
    | mk y => exact congrArg ByteArray.mk (Array.toList_inj.1 h)
set_option maxHeartbeats 400000 in
set_option maxRecDepth 100000 in
theorem row_read {fuel : Nat} {W : World} {cs : List Value} {r : CR} {p : List MemPlace}
    (h : DataW.trod (fun _ => ()) Tryd.prog W 0 (fun _ => true) false fuel 37 cs = some (dataC r, p)) : cs = cellsC r := by
  obtain ⟨xs, n, rfl, hx, hl, hxl, hall⟩ := DataW.trod_struct Tryd.underlying37 h
  rw [rowCells] at hl
  have h0 : DataW.trod (fun _ => ()) Tryd.prog W 0 (fun _ => true) false n 9 ((cs.drop 0).take (Tryd.prog.cellsOf 9)) = xs[0]? := hall 0 _ rfl
  have h1 : DataW.trod (fun _ => ()) Tryd.prog W 0 (fun _ => true) false n 9 ((cs.drop 1).take (Tryd.prog.cellsOf 9)) = xs[1]? := hall 1 _ rfl
  have h2 : DataW.trod (fun _ => ()) Tryd.prog W 0 (fun _ => true) false n 3 ((cs.drop 2).take (Tryd.prog.cellsOf 3)) = xs[2]? := hall 2 _ rfl
  have h3 : DataW.trod (fun _ => ()) Tryd.prog W 0 (fun _ => true) false n 3 ((cs.drop 3).take (Tryd.prog.cellsOf 3)) = xs[3]? := hall 3 _ rfl
  rw [strCellsC] at h0 h1
  rw [intCellsC] at h2 h3
  match cs, hl with
  | [c0, c1, c2, c3], _ =>
    match xs, hxl with
    | [x0, x1, x2, x3], _ =>
      obtain ⟨s0, e0, k0, _⟩ := DataW.trod_string Tryd.underlying9 h0
      obtain ⟨s1, e1, k1, _⟩ := DataW.trod_string Tryd.underlying9 h1
      obtain ⟨n2, e2, k2, _⟩ := DataW.trod_int Tryd.underlying3 h2
      obtain ⟨n3, e3, k3, _⟩ := DataW.trod_int Tryd.underlying3 h3
      simp at e0 e1 e2 e3
      subst e0 e1 e2 e3 k0 k1 k2 k3
      have hx1 := congrArg Prod.fst hx
      simp only [dataC, List.map_cons, List.map_nil, DataW.agg.injEq, List.cons.injEq, DataW.lit.injEq, Lit.string.injEq, Lit.int.injEq, true_and, and_true] at hx1
      obtain ⟨y0, y1, y2, y3⟩ := hx1
      unfold cellsC
      rw [data_inj y0, data_inj y1, y2, y3]
theorem cellsT_length : ∀ l : List CR, (cellsT l).length = l.length * 4
  | [] => rfl
  | r :: l => by
    rw [show cellsT (r :: l) = cellsC r ++ cellsT l by simp [cellsT], List.length_append, cellsT_length l]
    simp [cellsC]
    omega
theorem curTab_of {l : List (String × DataW Unit)} {W : World} (h : laidMet Tryd.prog l W) (hm : ("loop.example/g00793/impl.currencies", (Rows.laid_loop_example_g00793_impl_currencies : DataW Unit)) ∈ l) : CurTab W := by
  obtain ⟨g, t, cs, fuel, p, hg, ht, hvar, hd⟩ := Lib.laidMet.reads h hm
  obtain rfl := Option.some.inj (curNamed.symm.trans hg)
  obtain rfl := Option.some.inj (curType.symm.trans ht)
  rw [curData] at hd
  unfold CurTab
  rw [hvar]
  have hlen : cs.toList.length = 80 := by
    cases fuel with
    | zero => simp [DataW.trod] at hd
    | succ fuel =>
      simp only [DataW.trod, Tryd.underlying49, curCells] at hd
      split at hd
      · assumption
      · cases hd
  have hrow : ∀ i (hi : i < implT.length), (cs.toList.drop (i * 4)).take 4 = cellsC implT[i] := fun i hi => by
    obtain ⟨fuel', d, q, hdi, he⟩ := Lib.array_elem Tryd.underlying49 hd i hi
    rw [List.getElem?_map, List.getElem?_eq_getElem hi] at hdi
    obtain rfl := Option.some.inj hdi
    rw [rowCells] at he
    exact row_read he
  congr 1
  apply Array.toList_inj.1
  apply List.ext_getElem?
  intro m
  by_cases hlt : m < 80
  · have hi : m / 4 < implT.length := by rw [implT_len]; omega
    have e := congrArg (·[m % 4]?) (hrow (m / 4) hi)
    have hj : m % 4 < 4 := Nat.mod_lt _ (by decide)
    simp only [List.getElem?_take, List.getElem?_drop, hj, if_true] at e
    rw [← cellsT_get implT (m / 4) (m % 4) hi hj, show m / 4 * 4 + m % 4 = m by omega] at e
    simpa using e
  · rw [List.getElem?_eq_none (by omega), List.getElem?_eq_none (by simp [cellsT_length, implT_len]; omega)]
end Go.Proofs.YtgejjiiaimddaaaDoor
