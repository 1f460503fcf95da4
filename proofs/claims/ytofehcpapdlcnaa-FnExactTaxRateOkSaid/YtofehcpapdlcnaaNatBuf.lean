/-
  What the methods of impl.nat do to a number of the call's own that is under construction.
-/
import Derived.Test.YtofehcpapdlcnaaNatImpl
import Derived.Lib.Builder
import Derived.Lib.SliceRun
namespace Go.Proofs.Ytofehcpapdlcnaa
open Go.RowKit

/-- what a nat lies in: the cells behind its limbs, and the type of the block (a nat alone, or the head of an integer) -/
structure NatK where
  rest : List Value
  ty : TypeId
  ne : ty ≠ 3
@[reducible] def natK : NatK := ⟨[], 51, by decide⟩
/-- the pointer at block b leads to a nat of the call's own whose limbs are xs -/
def NatX (K : NatK) (B b : Nat) (xs : List Int) (w : World) : Prop :=
  B ≤ b ∧ ∃ v, w.heap[b]? = some (.cells (v :: K.rest).toArray K.ty (0, 0)) ∧ w.ownsRow B 3 1 v xs.length (intsV xs) ∧ v.ownBlock ≠ some b

abbrev NatAt (B b : Nat) (xs : List Int) (w : World) : Prop := NatX natK B b xs w

theorem NatX.lt {K : NatK} {B b : Nat} {xs : List Int} {w : World} (h : NatX K B b xs w) : b < w.heap.size := by
  obtain ⟨_, v, hb, _⟩ := h
  exact (Array.getElem?_eq_some_iff.1 hb).1
theorem NatX.cell {K : NatK} {v : Value} {b : Nat} {w : World} (hb : w.heap[b]? = some (.cells (v :: K.rest).toArray K.ty (0, 0))) : w.cell? ⟨b, 0, none⟩ = some v := by
  rw [Lib.cell_of_heap hb]; simp
theorem NatX.cell1 {K : NatK} {v u : Value} {b : Nat} {w : World} (hb : w.heap[b]? = some (.cells (v :: K.rest).toArray K.ty (0, 0))) (j : Nat) (hj : K.rest[j]? = some u) : w.cell? ⟨b, j + 1, none⟩ = some u := by
  rw [Lib.cell_of_heap hb]; simpa using hj
/-- new limbs laid into it -/
theorem NatX.put {K : NatK} {B b : Nat} {v v' : Value} {ys : List Int} {w : World} (hB : B ≤ b) (hb : w.heap[b]? = some (.cells (v :: K.rest).toArray K.ty (0, 0))) (hown : w.ownsRow B 3 1 v' ys.length (intsV ys)) :
    NatX K B b ys (w.setCell ⟨b, 0, none⟩ v') := by
  have hne := Lib.ownBlock_ne hown hb K.ne
  refine ⟨hB, v', ?_, ?_, hne⟩
  · simp [World.setCell, Array.getElem?_modify, hb]
  · exact hown.kept (row := some b) ⟨rfl, rfl, rfl, by simp [World.setCell], fun k _ hk => Below.heap_setCell _ _ _ _ (fun e => hk (by simp [e]))⟩ (Or.inr hne)
theorem NatAt.put {B b : Nat} {v v' : Value} {ys : List Int} {w : World} (hB : B ≤ b) (hb : w.heap[b]? = some (.cells #[v] 51 (0, 0))) (hown : w.ownsRow B 3 1 v' ys.length (intsV ys)) :
    NatAt B b ys (w.setCell ⟨b, 0, none⟩ v') := NatX.put (K := natK) hB hb hown
theorem NatX.new {K : NatK} {B : Nat} {v : Value} {xs : List Int} {w : World} (hB : B ≤ w.heap.size) (hown : w.ownsRow B 3 1 v xs.length (intsV xs)) : NatX K B w.heap.size xs (w.alloc (.cells (v :: K.rest).toArray K.ty)) := by
  refine ⟨hB, v, heap_alloc_new w _, own_alloc hown _, fun h => ?_⟩
  have := (own_lt hown h).2
  omega
theorem NatAt.new {B : Nat} {v : Value} {xs : List Int} {w : World} (hB : B ≤ w.heap.size) (hown : w.ownsRow B 3 1 v xs.length (intsV xs)) : NatAt B w.heap.size xs (w.alloc (.cells #[v] 51)) :=
  NatX.new (K := natK) hB hown


/-- a new nat that holds xs -/
def NewNat (xs : List Int) (w : World) (e : Ending) (w' : World) : Prop :=
  ∃ b, e = .returned (.pointer (some ⟨b, 0, none⟩)) ∧ NatAt w.heap.size b xs w' ∧ Below w.heap.size w w'


set_option maxHeartbeats 400000 in
set_option maxRecDepth 100000 in
theorem natResult_any {K : NatK} (B b : Nat) (xs : List Int) (w : World) (hl : xs.length ≤ 1048576) (h : NatX K B b xs w) :
    Calls Try.prog 37 #[.pointer (some ⟨b, 0, none⟩)] w (OwnPost B (capL xs) w) := by
  obtain ⟨hB, v, hb, hown, hne⟩ := h
  have hc : w.cell? ⟨b, 0, none⟩ = some v := NatX.cell hb
  obtain ⟨A, c, rfl⟩ := own_len hown
  have HB := Lib.hid hb
  have HO := Lib.hid hown
  clear hb hown hne
  by_cases h50 : 50 < xs.length
  · have HR := Lib.hid (show capL xs = [] by unfold capL; rw [if_pos h50])
    go_enter Try.func37, Try.ntmps37
    go_wp2
    go_ret
    exact ⟨rfl, _, rfl, by rw [HR.out]; exact World.ownsRow_nil _ _ _ _⟩
  · have HR := Lib.hid (show capL xs = xs by unfold capL; rw [if_neg h50])
    go_enter Try.func37, Try.ntmps37
    go_wp2
    go_ret
    exact ⟨rfl, _, rfl, by rw [HR.out]; exact HO.out⟩
end Go.Proofs.Ytofehcpapdlcnaa
