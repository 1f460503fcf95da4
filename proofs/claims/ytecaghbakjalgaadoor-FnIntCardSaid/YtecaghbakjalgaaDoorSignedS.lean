/-
  Slices of signed numbers: what laws.toSignedS, eqSignedS, markSignedS and szSignedS return.
-/
import Derived.Test.YtecaghbakjalgaaDoorSigned
import Derived.Deep.RegionHeld3
import Derived.Deep.DeepCutAuto
namespace Go.Proofs.YtecaghbakjalgaaDoor
open Go.RowKit

/-- a slice that reads as these numbers: an element two cells, its sign and the slice of its limbs -/
def RdL (w : World) (v : Value) (l : List SI) : Prop :=
  ∃ A c, v = .slice A l.length c ∧ ∀ (j : Nat) x, l[j]? = some x → ∃ a u, A = some a ∧ a.block < w.heap.size ∧ w.cell? (a.add (j * 2)) = some (.bool x.1) ∧ w.cell? ⟨(a.add (j * 2)).block, (a.add (j * 2)).off + 1, none⟩ = some u ∧ Row w 0 w.heap.size u (intsV x.2)
theorem RdL.below {w w' : World} {v : Value} {l : List SI} (h : RdL w v l) (hb : Below w.heap.size w w') : RdL w' v l := by
  obtain ⟨A, c, rfl, h⟩ := h
  refine ⟨A, c, rfl, fun j x hj => ?_⟩
  obtain ⟨a, u, rfl, h1, h2, h3, h4⟩ := h j x hj
  exact ⟨a, u, rfl, Nat.lt_of_lt_of_le h1 hb.size, (hb.cell (by rw [block_add]; exact h1)).trans h2, (hb.cell (by show (a.add (j * 2)).block < _; rw [block_add]; exact h1)).trans h3, (h4.below hb (Nat.le_refl _)).wide (Nat.le_refl _) hb.size⟩
/-- how much there is to read -/
def szL : List SI → Int
  | [] => 0
  | x :: l => szS x + szL l
theorem szL_nonneg (l : List SI) : 0 ≤ szL l := by
  induction l with
  | nil => exact Int.le_refl _
  | cons x l ih => show 0 ≤ szS x + szL l; unfold szS szI; omega
theorem szL_append (l r : List SI) : szL (l ++ r) = szL l + szL r := by
  induction l with
  | nil => show szL r = 0 + szL r; omega
  | cons x l ih => show szS x + szL (l ++ r) = szS x + szL l + szL r; rw [ih]; omega
theorem szL_take {l : List SI} {j : Nat} {x : SI} (h : l[j]? = some x) : szL (l.take (j + 1)) = szL (l.take j) + szS x := by
  have hj := (List.getElem?_eq_some_iff.1 h).1
  have e : l[j] = x := (List.getElem?_eq_some_iff.1 h).2
  rw [List.take_succ_eq_append_getElem hj, szL_append, e]
  show _ + (szS x + 0) = _
  omega
theorem szL_take_le (l : List SI) (j : Nat) : szL (l.take j) ≤ szL l := by
  have := szL_append (l.take j) (l.drop j)
  rw [List.take_append_drop] at this
  have := szL_nonneg (l.drop j)
  omega

theorem add_own (g m : Nat) : (⟨g, 0, none⟩ : Addr).add m = ⟨g, m, none⟩ := by
  unfold Addr.add
  split
  · rename_i h; rw [h]
  · simp
/-- the cells of such a slice -/
def flatC : List (Bool × Value) → List Value
  | [] => []
  | p :: r => .bool p.1 :: p.2 :: flatC r
theorem flatC_length (e : List (Bool × Value)) : (flatC e).length = e.length * 2 := by
  induction e with
  | nil => rfl
  | cons p r ih => show (flatC r).length + 1 + 1 = (r.length + 1) * 2; omega
theorem flatC_append (e f : List (Bool × Value)) : flatC (e ++ f) = flatC e ++ flatC f := by
  induction e with
  | nil => rfl
  | cons p r ih => show _ :: _ :: flatC (r ++ f) = _; rw [ih]; rfl
theorem flatC_get {e : List (Bool × Value)} {j : Nat} {p : Bool × Value} (h : e[j]? = some p) : (flatC e)[j * 2]? = some (.bool p.1) ∧ (flatC e)[j * 2 + 1]? = some p.2 := by
  induction e generalizing j with
  | nil => simp at h
  | cons q r ih =>
    cases j with
    | zero =>
      have : q = p := by simpa using h
      subst this
      exact ⟨rfl, rfl⟩
    | succ j =>
      have := ih (j := j) (by simpa using h)
      rw [show (j + 1) * 2 = j * 2 + 1 + 1 by omega]
      exact this
theorem set_two (xs : List Value) (k : Nat) (a b : Value) (h : k * 2 + 1 < xs.length) : ((xs.set (k * 2) a).set (k * 2 + 1) b).take ((k + 1) * 2) = xs.take (k * 2) ++ [a, b] := by
  rw [show (k + 1) * 2 = k * 2 + 1 + 1 by omega, List.take_succ_eq_append_getElem (by simp; omega), List.take_succ_eq_append_getElem (by simp; omega), List.take_set_of_le (by omega), List.take_set_of_le (by omega), List.append_assoc]
  simp
theorem drop_two (xs : List Value) (k : Nat) (a b : Value) : ((xs.set (k * 2) a).set (k * 2 + 1) b).drop ((k + 1) * 2) = xs.drop ((k + 1) * 2) := by
  rw [List.drop_set_of_lt (by omega), List.drop_set_of_lt (by omega)]
/-- the limbs of these numbers, each on blocks of its own, between lo and hi -/
def OwnEs (w : World) : Nat → List SI → List (Bool × Value) → Nat → Prop
  | lo, [], [], hi => lo ≤ hi
  | lo, x :: l, p :: e, hi => ∃ mid, lo ≤ mid ∧ p.1 = x.1 ∧ w.ownsRow lo 3 1 p.2 x.2.length (intsV x.2) ∧ (∀ b, p.2.ownBlock = some b → b < mid) ∧ OwnEs w mid l e hi
  | _, _, _, _ => False
theorem OwnEs.le {w : World} {lo hi : Nat} {l : List SI} {e : List (Bool × Value)} (h : OwnEs w lo l e hi) : lo ≤ hi := by
  induction l generalizing lo e with
  | nil => cases e with | nil => exact h | cons _ _ => exact h.elim
  | cons x l ih => cases e with | nil => exact h.elim | cons p e => obtain ⟨mid, h1, _, _, _, h2⟩ := h; exact Nat.le_trans h1 (ih h2)
theorem OwnEs.length {w : World} {lo hi : Nat} {l : List SI} {e : List (Bool × Value)} (h : OwnEs w lo l e hi) : e.length = l.length := by
  induction l generalizing lo e with
  | nil => cases e with | nil => rfl | cons _ _ => exact h.elim
  | cons x l ih => cases e with | nil => exact h.elim | cons p e => obtain ⟨mid, _, _, _, _, h2⟩ := h; simp [ih h2]
theorem OwnEs.stays {w w' : World} {lo hi : Nat} {l : List SI} {e : List (Bool × Value)} (h : OwnEs w lo l e hi) (hk : ∀ i, lo ≤ i → i < hi → w'.heap[i]? = w.heap[i]?) : OwnEs w' lo l e hi := by
  induction l generalizing lo e with
  | nil => cases e with | nil => exact h | cons _ _ => exact h.elim
  | cons x l ih =>
    cases e with
    | nil => exact h.elim
    | cons p e =>
      obtain ⟨mid, h1, h2, h3, h4, h5⟩ := h
      have hle := h5.le
      exact ⟨mid, h1, h2, own_stays h3 fun i hi => hk i (own_lt h3 hi).1 (Nat.lt_of_lt_of_le (h4 i hi) hle), h4, ih h5 fun i hi hi2 => hk i (by omega) hi2⟩
theorem OwnEs.wide {w : World} {lo hi hi' : Nat} {l : List SI} {e : List (Bool × Value)} (h : OwnEs w lo l e hi) (hh : hi ≤ hi') : OwnEs w lo l e hi' := by
  induction l generalizing lo e with
  | nil => cases e with | nil => exact Nat.le_trans h hh | cons _ _ => exact h.elim
  | cons x l ih => cases e with | nil => exact h.elim | cons p e => obtain ⟨mid, h1, h2, h3, h4, h5⟩ := h; exact ⟨mid, h1, h2, h3, h4, ih h5⟩
theorem OwnEs.snoc {w : World} {lo mid hi : Nat} {l : List SI} {e : List (Bool × Value)} {x : SI} {u : Value} (h : OwnEs w lo l e mid) (o : w.ownsRow mid 3 1 u x.2.length (intsV x.2)) (hu : ∀ b, u.ownBlock = some b → b < hi) (hh : mid ≤ hi) : OwnEs w lo (l ++ [x]) (e ++ [(x.1, u)]) hi := by
  induction l generalizing lo e with
  | nil =>
    cases e with
    | nil =>
      have hm : lo ≤ mid := h
      exact ⟨hi, Nat.le_trans hm hh, rfl, own_low o hm, hu, Nat.le_refl _⟩
    | cons _ _ => exact h.elim
  | cons y l ih => cases e with | nil => exact h.elim | cons p e => obtain ⟨m, h1, h2, h3, h4, h5⟩ := h; exact ⟨m, h1, h2, h3, h4, ih h5⟩
theorem OwnEs.at_ {w : World} {lo hi : Nat} {l : List SI} {e : List (Bool × Value)} (h : OwnEs w lo l e hi) {j : Nat} {x : SI} (hx : l[j]? = some x) : ∃ u, e[j]? = some (x.1, u) ∧ OwnI u x.2 w := by
  induction l generalizing lo e j with
  | nil => simp at hx
  | cons y l ih =>
    cases e with
    | nil => exact h.elim
    | cons p e =>
      obtain ⟨m, h1, h2, h3, h4, h5⟩ := h
      cases j with
      | zero =>
        have : y = x := by simpa using hx
        subst this
        exact ⟨p.2, by rw [← h2]; rfl, own_zero h3⟩
      | succ j => exact ih h5 (by simpa using hx)
/-- such a slice, of the call's own: its cells and limbs lie between lo and hi -/
def OwnL (v : Value) (l : List SI) (lo hi : Nat) (w : World) : Prop :=
  ∃ g e, v = .slice (some ⟨g, 0, none⟩) l.length l.length ∧ lo ≤ g ∧ g < hi ∧ hi ≤ w.heap.size ∧ w.ownsRow lo 25 2 v l.length (flatC e) ∧ OwnEs w (g + 1) l e hi
theorem OwnL.stays {v : Value} {l : List SI} {lo hi : Nat} {w w' : World} (h : OwnL v l lo hi w) (hk : ∀ i, lo ≤ i → i < hi → w'.heap[i]? = w.heap[i]?) (hz : w.heap.size ≤ w'.heap.size) : OwnL v l lo hi w' := by
  obtain ⟨g, e, rfl, h1, h2, h3, h4, h5⟩ := h
  exact ⟨g, e, rfl, h1, h2, Nat.le_trans h3 hz, own_stays h4 fun i hi => by cases hi; exact hk g h1 h2, h5.stays fun i hi hi2 => hk i (by omega) hi2⟩
theorem OwnL.below {v : Value} {l : List SI} {lo hi : Nat} {w w' : World} (h : OwnL v l lo hi w) (hb : Below w.heap.size w w') : OwnL v l lo hi w' := by
  have hh := h
  obtain ⟨_, _, _, _, _, h3, _, _⟩ := hh
  exact h.stays (fun i _ hi => hb.block i (by omega)) hb.size
theorem OwnL.rd {v : Value} {l : List SI} {lo hi : Nat} {w : World} (h : OwnL v l lo hi w) : RdL w v l := by
  obtain ⟨g, e, rfl, h1, h2, h3, h4, h5⟩ := h
  refine ⟨_, _, rfl, fun j x hj => ?_⟩
  have hjl := (List.getElem?_eq_some_iff.1 hj).1
  obtain ⟨u, he, ho⟩ := h5.at_ hj
  have hf := flatC_get he
  refine ⟨⟨g, 0, none⟩, u, rfl, by show g < _; omega, ?_, ?_, ho.row⟩
  · have := h4.cellAt (j * 2) (by omega)
    rw [hf.1] at this
    rw [add_own]
    exact this
  · have := h4.cellAt (j * 2 + 1) (by omega)
    rw [hf.2] at this
    rw [add_own]
    exact this

theorem signedInfo : (Tryd.prog.info? 25).map (fun i => (i.zero, i.size, i.bytes)) = some (some (.agg #[.bool false, .slice none 0 0]), 2, 32) := by kernel_rfl
theorem make_signed (n : Nat) (hn : n ≤ 1099511627776) (W : World) :
    (Instr.makeSlice 40 (.int .i64 (n : Int)) (.int .i64 (n : Int))).run Tryd.prog W = .ok (.slice (some ⟨W.heap.size, 0, none⟩) n n) (W.alloc (.cells (madeCells #[.bool false, .slice none 0 0] (n * 2)) 25)) := by
  obtain ⟨i0, hi, hz0, hz1, hz2⟩ := info_parts signedInfo
  have h := run_make (P := Tryd.prog) W 40 25 i0 (.agg #[.bool false, .slice none 0 0]) Tryd.underlying40 hi hz0 .i64 .i64 (n : Int) (n : Int) (by omega) (by omega) (by rw [hz2]; omega) (by omega)
  rw [hz1, Int.toNat_natCast] at h
  exact h
/-- a new slice of signed numbers -/
def NewL (l : List SI) (w : World) (e : Ending) (w' : World) : Prop := ∃ v, e = .returned v ∧ OwnL v l w.heap.size w'.heap.size w' ∧ Below w.heap.size w w'


/-- the blocks from lo on, ahead of hi -/
def rangeB (lo hi : Nat) : List Nat := List.range' lo (hi - lo)
theorem mem_rangeB {lo hi g : Nat} (h : lo ≤ g) (h2 : g < hi) : g ∈ rangeB lo hi := by
  unfold rangeB
  rw [List.mem_range'_1]
  omega
theorem rangeB_mem {lo hi g : Nat} (h : g ∈ rangeB lo hi) : lo ≤ g ∧ g < hi := by
  unfold rangeB at h
  rw [List.mem_range'_1] at h
  omega
theorem Chg.grown {S : List Nat} {w w1 w2 : World} {v : Value} (h : Chg S w w1) (hg : w1.grownBy w2 v.ownBlock) (hS : ∀ b, v.ownBlock = some b → b ∈ S) : Chg S w w2 :=
  h.trans ((Chg.of_grown hg).more fun g hg => hS g (by simpa using hg))
end Go.Proofs.YtecaghbakjalgaaDoor
