/-
  Chapter 10: sums of slices of amounts, in package spec.
  Slices of signed numbers: what laws.toSignedS, eqSignedS, markSignedS and szSignedS return.
  Chapter 5: sums of slices of signed numbers, in both packages.
  Sums of amounts in plain words.
  What FnMoney asks of two drawn amounts, in plain words.
  Chapter 10 of package impl: what MoneySame returns.
  MakeMoneys: two right amounts of one currency.
  Chapter 10 of package impl: what MoneyNeg returns.
  Chapter 10: sums of slices of amounts, in package impl.
  Chapter 10 of package impl: what MoneyAdd and MoneySub return.
-/
import Derived.Deep.RegionHeld3
import Derived.Deep.DeepCutAuto
import Derived.Laws.CopyOwn
import Derived.Test.YtcenmdiblbooeaaGreatDoorJA8
namespace Go.Proofs.YtcenmdiblbooeaaGreatDoor
open Go.RowKit

/-- a slice that reads as these amounts, their limbs of the call's own -/
def OwnMR (w : World) (v : Value) (l : List MI) : Prop :=
  ∃ A c, v = .slice A l.length c ∧ ∀ (j : Nat) x, l[j]? = some x → ∃ a u, A = some a ∧ a.block < w.heap.size ∧ w.cell? (a.add (j * 3)) = some (.string x.1) ∧ w.cell? ⟨(a.add (j * 3)).block, (a.add (j * 3)).off + 1, none⟩ = some (.bool x.2.1) ∧ w.cell? ⟨(a.add (j * 3)).block, (a.add (j * 3)).off + 2, none⟩ = some u ∧ OwnI u x.2.2 w
theorem OwnML.ownR {v : Value} {l : List MI} {lo hi : Nat} {w : World} (h : OwnML v l lo hi w) : OwnMR w v l := by
  obtain ⟨g, e, rfl, h1, h2, h3, h4, h5⟩ := h
  refine ⟨_, _, rfl, fun j x hj => ?_⟩
  have hjl := (List.getElem?_eq_some_iff.1 hj).1
  obtain ⟨u, he, ho⟩ := h5.at_ hj
  have hf := flatM_get he
  refine ⟨⟨g, 0, none⟩, u, rfl, by show g < _; omega, ?_, ?_, ?_, ho⟩
  · have := h4.cellAt (j * 3) (by omega)
    rw [hf.1] at this
    rw [add_ownM]
    exact this
  · have := h4.cellAt (j * 3 + 1) (by omega)
    rw [hf.2.1] at this
    rw [add_ownM]
    exact this
  · have := h4.cellAt (j * 3 + 2) (by omega)
    rw [hf.2.2] at this
    rw [add_ownM]
    exact this
def foldU (l : List MI) : SI := l.foldl (fun s m => addS s m.2) zeroS
theorem foldU_snoc (l : List MI) (x : MI) : foldU (l ++ [x]) = addS (foldU l) x.2 := by unfold foldU; rw [List.foldl_append]; rfl
theorem addS_lenM (x y : SI) : (addS x y).2.length ≤ 50 := by unfold addS; split; exact ofZ_len _; exact Nat.zero_le _
theorem foldU_len (l : List MI) : (foldU l).2.length ≤ 50 := by
  rcases List.eq_nil_or_concat l with rfl | ⟨r, x, rfl⟩
  · exact Nat.zero_le _
  · rw [List.concat_eq_append, foldU_snoc]; exact addS_lenM _ _
def fitM (cu : ByteArray) (m : MI) : Bool := okM m && decide (m.1 = cu)
def sumM (cu : ByteArray) (l : List MI) : MI × Bool := if l.all (fitM cu) = true then makeM cu (foldU l) else (zeroM, false)
theorem sumM_bad {cu : ByteArray} {l : List MI} {j : Nat} {x : MI} (hx : l[j]? = some x) (h : ¬ fitM cu x = true) : sumM cu l = (zeroM, false) := by
  unfold sumM
  rw [if_neg]
  intro ha
  rw [List.all_eq_true] at ha
  exact h (ha x (List.mem_of_getElem? hx))
theorem take_snocM {l : List MI} {k : Nat} {x : MI} (h : l[k]? = some x) : l.take (k + 1) = l.take k ++ [x] := by
  have hj := (List.getElem?_eq_some_iff.1 h).1
  rw [List.take_succ_eq_append_getElem hj, (List.getElem?_eq_some_iff.1 h).2]
theorem set_boxM {g : Nat} {a b : Value} {c0 c1 : Value} {W : World} (h : BoxAt g #[c0, c1] 25 W) : BoxAt g #[a, b] 25 ((W.setCell ⟨g, 0, none⟩ a).setCell ⟨g, 1, none⟩ b) := by
  have h' : W.heap[g]? = some (.cells #[c0, c1] 25 (0, 0)) := h
  simp [BoxAt, World.setCell, Array.getElem?_modify, h']
/-- the sum so far, in its box -/
def SumRel (cu : ByteArray) (l : List MI) (w : World) (i : Value) (wr : World) : Prop :=
  ∃ (k : Nat) (u : Value), k ≤ l.length ∧ i = .int .i64 k ∧ (l.take k).all (fitM cu) = true ∧ At [w.heap.size + 1] (BoxAt (w.heap.size + 1) #[.bool (foldU (l.take k)).1, u] 25) wr ∧ wr.ownsRow (w.heap.size + 2) 3 1 u (foldU (l.take k)).2.length (intsV (foldU (l.take k)).2) ∧ At [w.heap.size] (BoxAt w.heap.size #[.string ⟨#[]⟩, .bool false, .slice none 0 0] 27) wr ∧ Below w.heap.size w wr
theorem sumRel_next {cu : ByteArray} {l : List MI} {w w2 : World} {k : Nat} {x : MI} {s : SI} {A : Option Addr} {c : Nat} {z0 z1 : Value} (hk : k < l.length) (hx : l[k]? = some x) (ha : (l.take k).all (fitM cu) = true) (hf : fitM cu x = true) (hs : s = foldU (l.take (k + 1)))
    (ko : At [w.heap.size + 1] (BoxAt (w.heap.size + 1) #[z0, z1] 25) w2) (kr : At [w.heap.size] (BoxAt w.heap.size #[.string ⟨#[]⟩, .bool false, .slice none 0 0] 27) w2)
    (o : w2.ownsRow (w.heap.size + 2) 3 1 (.slice A s.2.length c) s.2.length (intsV s.2)) (hb : Below w.heap.size w w2) :
    SumRel cu l w (.int .i64 ((k : Int) + 1)) ((w2.setCell ⟨w.heap.size + 1, 0, none⟩ (.bool s.1)).setCell ⟨w.heap.size + 1, 1, none⟩ (.slice A s.2.length c)) := by
  subst hs
  have hc : Chg [w.heap.size + 1] w2 ((w2.setCell ⟨w.heap.size + 1, 0, none⟩ (.bool (foldU (l.take (k + 1))).1)).setCell ⟨w.heap.size + 1, 1, none⟩ (.slice A (foldU (l.take (k + 1))).2.length c)) := ((Chg.refl _ _).setCell (by simp) _).setCell (by simp) _
  refine ⟨k + 1, _, by omega, by go_num, ?_, box_at (set_boxM ko.here), own_stays o fun i hi => hc.block i (own_lt o hi).2 (by have := (own_lt o hi).1; simp; omega), kr.chg hc (fun i hi hm => by simp at hi hm; omega), below_chg hb hc hb.size (fun i hi => by simp at hi; omega)⟩
  rw [take_snocM hx, List.all_append, ha]
  simp [hf]
end Go.Proofs.YtcenmdiblbooeaaGreatDoor

namespace Go.Proofs.YtcenmdiblbooeaaGreatDoor
open Go.RowKit

/-- a slice that reads as these numbers: an element two cells, its sign and the slice of its limbs -/
def RdL (w : World) (v : Value) (l : List SI) : Prop :=
  ∃ A c, v = .slice A l.length c ∧ ∀ (j : Nat) x, l[j]? = some x → ∃ a u, A = some a ∧ a.block < w.heap.size ∧ w.cell? (a.add (j * 2)) = some (.bool x.1) ∧ w.cell? ⟨(a.add (j * 2)).block, (a.add (j * 2)).off + 1, none⟩ = some u ∧ Row w 0 w.heap.size u (intsV x.2)
theorem RdL.below {w w' : World} {v : Value} {l : List SI} (h : RdL w v l) (hb : Below w.heap.size w w') : RdL w' v l := by
  obtain ⟨A, c, rfl, h⟩ := h
  refine ⟨A, c, rfl, fun j x hj => ?_⟩
  obtain ⟨a, u, rfl, h1, h2, h3, h4⟩ := h j x hj
  exact ⟨a, u, rfl, Nat.lt_of_lt_of_le h1 hb.size, (hb.cell (by rw [block_add]; exact h1)).trans h2, (hb.cell (by show (a.add (j * 2)).block < _; rw [block_add]; exact h1)).trans h3, (h4.below hb (Nat.le_refl _)).wide (Nat.le_refl _) hb.size⟩
/-- how much there is to read -/
def szL : List SI → Int
  | [] => 0
  | x :: l => szS x + szL l
theorem szL_nonneg (l : List SI) : 0 ≤ szL l := by
  induction l with
  | nil => exact Int.le_refl _
  | cons x l ih => show 0 ≤ szS x + szL l; unfold szS szI; omega
theorem szL_append (l r : List SI) : szL (l ++ r) = szL l + szL r := by
  induction l with
  | nil => show szL r = 0 + szL r; omega
  | cons x l ih => show szS x + szL (l ++ r) = szS x + szL l + szL r; rw [ih]; omega
theorem szL_take {l : List SI} {j : Nat} {x : SI} (h : l[j]? = some x) : szL (l.take (j + 1)) = szL (l.take j) + szS x := by
  have hj := (List.getElem?_eq_some_iff.1 h).1
  have e : l[j] = x := (List.getElem?_eq_some_iff.1 h).2
  rw [List.take_succ_eq_append_getElem hj, szL_append, e]
  show _ + (szS x + 0) = _
  omega
theorem szL_take_le (l : List SI) (j : Nat) : szL (l.take j) ≤ szL l := by
  have := szL_append (l.take j) (l.drop j)
  rw [List.take_append_drop] at this
  have := szL_nonneg (l.drop j)
  omega

theorem add_own (g m : Nat) : (⟨g, 0, none⟩ : Addr).add m = ⟨g, m, none⟩ := by
  unfold Addr.add
  split
  · rename_i h; rw [h]
  · simp
/-- the cells of such a slice -/
def flatC : List (Bool × Value) → List Value
  | [] => []
  | p :: r => .bool p.1 :: p.2 :: flatC r
theorem flatC_length (e : List (Bool × Value)) : (flatC e).length = e.length * 2 := by
  induction e with
  | nil => rfl
  | cons p r ih => show (flatC r).length + 1 + 1 = (r.length + 1) * 2; omega
theorem flatC_append (e f : List (Bool × Value)) : flatC (e ++ f) = flatC e ++ flatC f := by
  induction e with
  | nil => rfl
  | cons p r ih => show _ :: _ :: flatC (r ++ f) = _; rw [ih]; rfl
theorem flatC_get {e : List (Bool × Value)} {j : Nat} {p : Bool × Value} (h : e[j]? = some p) : (flatC e)[j * 2]? = some (.bool p.1) ∧ (flatC e)[j * 2 + 1]? = some p.2 := by
  induction e generalizing j with
  | nil => simp at h
  | cons q r ih =>
    cases j with
    | zero =>
      have : q = p := by simpa using h
      subst this
      exact ⟨rfl, rfl⟩
    | succ j =>
      have := ih (j := j) (by simpa using h)
      rw [show (j + 1) * 2 = j * 2 + 1 + 1 by omega]
      exact this
theorem set_two (xs : List Value) (k : Nat) (a b : Value) (h : k * 2 + 1 < xs.length) : ((xs.set (k * 2) a).set (k * 2 + 1) b).take ((k + 1) * 2) = xs.take (k * 2) ++ [a, b] := by
  rw [show (k + 1) * 2 = k * 2 + 1 + 1 by omega, List.take_succ_eq_append_getElem (by simp; omega), List.take_succ_eq_append_getElem (by simp; omega), List.take_set_of_le (by omega), List.take_set_of_le (by omega), List.append_assoc]
  simp
theorem drop_two (xs : List Value) (k : Nat) (a b : Value) : ((xs.set (k * 2) a).set (k * 2 + 1) b).drop ((k + 1) * 2) = xs.drop ((k + 1) * 2) := by
  rw [List.drop_set_of_lt (by omega), List.drop_set_of_lt (by omega)]
/-- the limbs of these numbers, each on blocks of its own, between lo and hi -/
def OwnEs (w : World) : Nat → List SI → List (Bool × Value) → Nat → Prop
  | lo, [], [], hi => lo ≤ hi
  | lo, x :: l, p :: e, hi => ∃ mid, lo ≤ mid ∧ p.1 = x.1 ∧ w.ownsRow lo 3 1 p.2 x.2.length (intsV x.2) ∧ (∀ b, p.2.ownBlock = some b → b < mid) ∧ OwnEs w mid l e hi
  | _, _, _, _ => False
theorem OwnEs.le {w : World} {lo hi : Nat} {l : List SI} {e : List (Bool × Value)} (h : OwnEs w lo l e hi) : lo ≤ hi := by
  induction l generalizing lo e with
  | nil => cases e with | nil => exact h | cons _ _ => exact h.elim
  | cons x l ih => cases e with | nil => exact h.elim | cons p e => obtain ⟨mid, h1, _, _, _, h2⟩ := h; exact Nat.le_trans h1 (ih h2)
theorem OwnEs.length {w : World} {lo hi : Nat} {l : List SI} {e : List (Bool × Value)} (h : OwnEs w lo l e hi) : e.length = l.length := by
  induction l generalizing lo e with
  | nil => cases e with | nil => rfl | cons _ _ => exact h.elim
  | cons x l ih => cases e with | nil => exact h.elim | cons p e => obtain ⟨mid, _, _, _, _, h2⟩ := h; simp [ih h2]
theorem OwnEs.stays {w w' : World} {lo hi : Nat} {l : List SI} {e : List (Bool × Value)} (h : OwnEs w lo l e hi) (hk : ∀ i, lo ≤ i → i < hi → w'.heap[i]? = w.heap[i]?) : OwnEs w' lo l e hi := by
  induction l generalizing lo e with
  | nil => cases e with | nil => exact h | cons _ _ => exact h.elim
  | cons x l ih =>
    cases e with
    | nil => exact h.elim
    | cons p e =>
      obtain ⟨mid, h1, h2, h3, h4, h5⟩ := h
      have hle := h5.le
      exact ⟨mid, h1, h2, own_stays h3 fun i hi => hk i (own_lt h3 hi).1 (Nat.lt_of_lt_of_le (h4 i hi) hle), h4, ih h5 fun i hi hi2 => hk i (by omega) hi2⟩
theorem OwnEs.wide {w : World} {lo hi hi' : Nat} {l : List SI} {e : List (Bool × Value)} (h : OwnEs w lo l e hi) (hh : hi ≤ hi') : OwnEs w lo l e hi' := by
  induction l generalizing lo e with
  | nil => cases e with | nil => exact Nat.le_trans h hh | cons _ _ => exact h.elim
  | cons x l ih => cases e with | nil => exact h.elim | cons p e => obtain ⟨mid, h1, h2, h3, h4, h5⟩ := h; exact ⟨mid, h1, h2, h3, h4, ih h5⟩
theorem OwnEs.snoc {w : World} {lo mid hi : Nat} {l : List SI} {e : List (Bool × Value)} {x : SI} {u : Value} (h : OwnEs w lo l e mid) (o : w.ownsRow mid 3 1 u x.2.length (intsV x.2)) (hu : ∀ b, u.ownBlock = some b → b < hi) (hh : mid ≤ hi) : OwnEs w lo (l ++ [x]) (e ++ [(x.1, u)]) hi := by
  induction l generalizing lo e with
  | nil =>
    cases e with
    | nil =>
      have hm : lo ≤ mid := h
      exact ⟨hi, Nat.le_trans hm hh, rfl, own_low o hm, hu, Nat.le_refl _⟩
    | cons _ _ => exact h.elim
  | cons y l ih => cases e with | nil => exact h.elim | cons p e => obtain ⟨m, h1, h2, h3, h4, h5⟩ := h; exact ⟨m, h1, h2, h3, h4, ih h5⟩
theorem OwnEs.at_ {w : World} {lo hi : Nat} {l : List SI} {e : List (Bool × Value)} (h : OwnEs w lo l e hi) {j : Nat} {x : SI} (hx : l[j]? = some x) : ∃ u, e[j]? = some (x.1, u) ∧ OwnI u x.2 w := by
  induction l generalizing lo e j with
  | nil => simp at hx
  | cons y l ih =>
    cases e with
    | nil => exact h.elim
    | cons p e =>
      obtain ⟨m, h1, h2, h3, h4, h5⟩ := h
      cases j with
      | zero =>
        have : y = x := by simpa using hx
        subst this
        exact ⟨p.2, by rw [← h2]; rfl, own_zero h3⟩
      | succ j => exact ih h5 (by simpa using hx)
/-- such a slice, of the call's own: its cells and limbs lie between lo and hi -/
def OwnL (v : Value) (l : List SI) (lo hi : Nat) (w : World) : Prop :=
  ∃ g e, v = .slice (some ⟨g, 0, none⟩) l.length l.length ∧ lo ≤ g ∧ g < hi ∧ hi ≤ w.heap.size ∧ w.ownsRow lo 25 2 v l.length (flatC e) ∧ OwnEs w (g + 1) l e hi
theorem OwnL.stays {v : Value} {l : List SI} {lo hi : Nat} {w w' : World} (h : OwnL v l lo hi w) (hk : ∀ i, lo ≤ i → i < hi → w'.heap[i]? = w.heap[i]?) (hz : w.heap.size ≤ w'.heap.size) : OwnL v l lo hi w' := by
  obtain ⟨g, e, rfl, h1, h2, h3, h4, h5⟩ := h
  exact ⟨g, e, rfl, h1, h2, Nat.le_trans h3 hz, own_stays h4 fun i hi => by cases hi; exact hk g h1 h2, h5.stays fun i hi hi2 => hk i (by omega) hi2⟩
theorem OwnL.below {v : Value} {l : List SI} {lo hi : Nat} {w w' : World} (h : OwnL v l lo hi w) (hb : Below w.heap.size w w') : OwnL v l lo hi w' := by
  have hh := h
  obtain ⟨_, _, _, _, _, h3, _, _⟩ := hh
  exact h.stays (fun i _ hi => hb.block i (by omega)) hb.size
theorem OwnL.rd {v : Value} {l : List SI} {lo hi : Nat} {w : World} (h : OwnL v l lo hi w) : RdL w v l := by
  obtain ⟨g, e, rfl, h1, h2, h3, h4, h5⟩ := h
  refine ⟨_, _, rfl, fun j x hj => ?_⟩
  have hjl := (List.getElem?_eq_some_iff.1 hj).1
  obtain ⟨u, he, ho⟩ := h5.at_ hj
  have hf := flatC_get he
  refine ⟨⟨g, 0, none⟩, u, rfl, by show g < _; omega, ?_, ?_, ho.row⟩
  · have := h4.cellAt (j * 2) (by omega)
    rw [hf.1] at this
    rw [add_own]
    exact this
  · have := h4.cellAt (j * 2 + 1) (by omega)
    rw [hf.2] at this
    rw [add_own]
    exact this

theorem signedInfo : (Tryz.prog.info? 25).map (fun i => (i.zero, i.size, i.bytes)) = some (some (.agg #[.bool false, .slice none 0 0]), 2, 32) := by kernel_rfl
theorem make_signed (n : Nat) (hn : n ≤ 1099511627776) (W : World) :
    (Instr.makeSlice 81 (.int .i64 (n : Int)) (.int .i64 (n : Int))).run Tryz.prog W = .ok (.slice (some ⟨W.heap.size, 0, none⟩) n n) (W.alloc (.cells (madeCells #[.bool false, .slice none 0 0] (n * 2)) 25)) := by
  obtain ⟨i0, hi, hz0, hz1, hz2⟩ := info_parts signedInfo
  have h := run_make (P := Tryz.prog) W 81 25 i0 (.agg #[.bool false, .slice none 0 0]) Tryz.underlying81 hi hz0 .i64 .i64 (n : Int) (n : Int) (by omega) (by omega) (by rw [hz2]; omega) (by omega)
  rw [hz1, Int.toNat_natCast] at h
  exact h
/-- a new slice of signed numbers -/
def NewL (l : List SI) (w : World) (e : Ending) (w' : World) : Prop := ∃ v, e = .returned v ∧ OwnL v l w.heap.size w'.heap.size w' ∧ Below w.heap.size w w'


/-- the blocks from lo on, ahead of hi -/
def rangeB (lo hi : Nat) : List Nat := List.range' lo (hi - lo)
theorem mem_rangeB {lo hi g : Nat} (h : lo ≤ g) (h2 : g < hi) : g ∈ rangeB lo hi := by
  unfold rangeB
  rw [List.mem_range'_1]
  omega
theorem rangeB_mem {lo hi g : Nat} (h : g ∈ rangeB lo hi) : lo ≤ g ∧ g < hi := by
  unfold rangeB at h
  rw [List.mem_range'_1] at h
  omega
theorem Chg.grown {S : List Nat} {w w1 w2 : World} {v : Value} (h : Chg S w w1) (hg : w1.grownBy w2 v.ownBlock) (hS : ∀ b, v.ownBlock = some b → b ∈ S) : Chg S w w2 :=
  h.trans ((Chg.of_grown hg).more fun g hg => hS g (by simpa using hg))
end Go.Proofs.YtcenmdiblbooeaaGreatDoor

namespace Go.Proofs.YtcenmdiblbooeaaGreatDoor
open Go.RowKit

/-- a slice that reads as these numbers, their limbs of the call's own -/
def OwnR (w : World) (v : Value) (l : List SI) : Prop :=
  ∃ A c, v = .slice A l.length c ∧ ∀ (j : Nat) x, l[j]? = some x → ∃ a u, A = some a ∧ a.block < w.heap.size ∧ w.cell? (a.add (j * 2)) = some (.bool x.1) ∧ w.cell? ⟨(a.add (j * 2)).block, (a.add (j * 2)).off + 1, none⟩ = some u ∧ OwnI u x.2 w
theorem OwnL.ownR {v : Value} {l : List SI} {lo hi : Nat} {w : World} (h : OwnL v l lo hi w) : OwnR w v l := by
  obtain ⟨g, e, rfl, h1, h2, h3, h4, h5⟩ := h
  refine ⟨_, _, rfl, fun j x hj => ?_⟩
  have hjl := (List.getElem?_eq_some_iff.1 hj).1
  obtain ⟨u, he, ho⟩ := h5.at_ hj
  have hf := flatC_get he
  refine ⟨⟨g, 0, none⟩, u, rfl, by show g < _; omega, ?_, ?_, ho⟩
  · have := h4.cellAt (j * 2) (by omega)
    rw [hf.1] at this
    rw [add_own]
    exact this
  · have := h4.cellAt (j * 2 + 1) (by omega)
    rw [hf.2] at this
    rw [add_own]
    exact this
theorem OwnR.rd {v : Value} {l : List SI} {w : World} (h : OwnR w v l) : RdL w v l := by
  obtain ⟨A, c, rfl, h⟩ := h
  refine ⟨A, c, rfl, fun j x hj => ?_⟩
  obtain ⟨a, u, rfl, h1, h2, h3, h4⟩ := h j x hj
  exact ⟨a, u, rfl, h1, h2, h3, h4.row⟩
def foldS (l : List SI) : SI := l.foldl addS zeroS
theorem foldS_snoc (l : List SI) (x : SI) : foldS (l ++ [x]) = addS (foldS l) x := by unfold foldS; rw [List.foldl_append]; rfl
theorem addS_len (x y : SI) : (addS x y).2.length ≤ 50 := by unfold addS; split; exact ofZ_len _; exact Nat.zero_le _
theorem foldS_len (l : List SI) : (foldS l).2.length ≤ 50 := by
  rcases List.eq_nil_or_concat l with rfl | ⟨r, x, rfl⟩
  · exact Nat.zero_le _
  · rw [List.concat_eq_append, foldS_snoc]; exact addS_len _ _
theorem sumS_ok {l : List SI} (h : l.all okS = true) : sumS l = foldS l := by unfold sumS; rw [if_pos h]; rfl
theorem sumS_bad {l : List SI} {j : Nat} {x : SI} (hx : l[j]? = some x) (h : ¬ okS x = true) : sumS l = zeroS := by
  unfold sumS
  rw [if_neg]
  intro ha
  rw [List.all_eq_true] at ha
  exact h (ha x (List.mem_of_getElem? hx))
theorem take_snoc {l : List SI} {k : Nat} {x : SI} (h : l[k]? = some x) : l.take (k + 1) = l.take k ++ [x] := by
  have hj := (List.getElem?_eq_some_iff.1 h).1
  rw [List.take_succ_eq_append_getElem hj, (List.getElem?_eq_some_iff.1 h).2]
theorem all_snoc {l : List SI} {k : Nat} {x : SI} (h : l[k]? = some x) (ha : (l.take k).all okS = true) (hx : okS x = true) : (l.take (k + 1)).all okS = true := by
  rw [take_snoc h, List.all_append, ha]
  simp [hx]
theorem set_box {g : Nat} {a b : Value} {c0 c1 : Value} {W : World} (h : BoxAt g #[c0, c1] 25 W) : BoxAt g #[a, b] 25 ((W.setCell ⟨g, 0, none⟩ a).setCell ⟨g, 1, none⟩ b) := swap_box h

set_option maxHeartbeats 2000000 in
set_option maxRecDepth 100000 in
theorem implIntSum_any (v : Value) (l : List SI) (w : World) (hl : l.length ≤ 140737488355328) (hx : ∀ x ∈ l, x.2.length ≤ 1048576) (h : OwnR w v l) :
    Calls Tryz.prog 46 #[v] w (NewS (sumS l) w) := by
  have hbb : Below w.heap.size w ((w.alloc (.cells #[.bool false, .slice none 0 0] 25)).alloc (.cells #[.bool false, .slice none 0 0] 25)) := below_al (below_al (Below.refl _ _) _) _
  have kr := (box_new w #[.bool false, .slice none 0 0] 25).below (below_al (Below.refl _ _) (.cells #[.bool false, .slice none 0 0] 25))
  have ko := box_new (w.alloc (.cells #[.bool false, .slice none 0 0] 25)) #[.bool false, .slice none 0 0] 25
  rw [show (w.alloc (.cells #[.bool false, .slice none 0 0] 25)).heap.size = w.heap.size + 1 by simp] at ko
  obtain ⟨A, c, rfl, hc⟩ := h
  have HC := Lib.hid hc
  clear hc
  obtain ⟨W0, hW0⟩ : ∃ W0, W0 = (w.alloc (.cells #[.bool false, .slice none 0 0] 25)).alloc (.cells #[.bool false, .slice none 0 0] 25) := ⟨_, rfl⟩
  rw [← hW0] at hbb kr ko
  have HW := Lib.hid hW0
  have HKR := Lib.hid kr.here
  have HKO := Lib.hid ko.here
  have HBB := Lib.hid hbb
  clear hW0 kr ko hbb
  go_enter Tryz.func46, Tryz.ntmps46
  go_wp2
  go_loopw [8] (fun i wr => ∃ (k : Nat) (u : Value), k ≤ l.length ∧ i = .int .i64 k ∧ Hid ((l.take k).all okS = true) ∧ Hid (BoxAt (w.heap.size + 1) #[.bool (foldS (l.take k)).1, u] 25 wr) ∧ Hid (wr.ownsRow w.heap.size 3 1 u (foldS (l.take k)).2.length (intsV (foldS (l.take k)).2)) ∧ Hid (BoxAt w.heap.size #[.bool false, .slice none 0 0] 25 wr) ∧ Hid (Below w.heap.size w wr)) (fun i _ => l.length - (intOf i).toNat)
  case atStart =>
    rw [← HW.out]
    exact ⟨0, .slice none 0 0, Nat.zero_le _, rfl, Lib.hid rfl, Lib.hid HKO.out, Lib.hid (World.ownsRow_nil _ _ _ _), HKR, HBB⟩
  case round =>
    obtain ⟨k, u, hk, rfl, HA, HO, HU, HR, HB⟩ := hrel
    have hso : w.heap.size + 1 < wr.heap.size := (Array.getElem?_eq_some_iff.1 HO.out).1
    obtain ⟨Au, cu, rfl⟩ := own_len HU.out
    by_cases hlt : k < l.length
    · obtain ⟨x, hxk⟩ : ∃ x, l[k]? = some x := ⟨_, List.getElem?_eq_getElem hlt⟩
      obtain ⟨a, ux, rfl, ha, hc0, hc1, hox⟩ := HC.out k x hxk
      have hxl := hx x (List.mem_of_getElem? hxk)
      obtain ⟨A1, c1, rfl⟩ := own_len hox
      have k0 : wr.cell? (a.add (k * 2)) = some (.bool x.1) := (HB.out.cell (by rw [block_add]; exact ha)).trans hc0
      have k1 : wr.cell? ⟨(a.add (k * 2)).block, (a.add (k * 2)).off + 1, none⟩ = some (.slice A1 x.2.length c1) := (HB.out.cell (by show (a.add (k * 2)).block < _; rw [block_add]; exact ha)).trans hc1
      have hbx := below_al (Below.refl wr.heap.size wr) (.cells #[.bool x.1, .slice A1 x.2.length c1] 25)
      have kx := box_new wr #[.bool x.1, .slice A1 x.2.length c1] 25
      have ox : (wr.alloc (.cells #[.bool x.1, .slice A1 x.2.length c1] 25)).ownsRow 0 3 1 (.slice A1 x.2.length c1) x.2.length (intsV x.2) := own_below (own_below hox HB.out) hbx
      have ko := (box_at HO.out).below hbx
      have kr := (box_at HR.out).below hbx
      have ou := own_below HU.out hbx
      have hfl := foldS_len (l.take k)
      have HTS := Lib.hid (take_snoc hxk)
      have HFS := Lib.hid (foldS_snoc (l.take k) x)
      have rdx := (OwnS.mk (x := x) (ownI_of ox)).rd
      have HSB := Lib.hid (fun h => sumS_bad hxk h)
      have HAS := Lib.hid (fun h => all_snoc hxk HA.out h)
      generalize foldS (l.take k) = s at *
      by_cases okx : okS x = true
      · go_wp2_with fail
        refine (implIntOk_any _ x _ hxl rdx).mono ?_
        rintro e w1 ⟨rfl, b1⟩
        rw [okx]
        replace kx := kx.below b1
        replace ko := ko.below b1
        replace kr := kr.below b1
        replace ou := own_below ou b1
        replace ox := own_below ox b1
        have bb1 := (HB.out.trans (show Below w.heap.size wr _ from ⟨hbx.os, hbx.tape, hbx.output, hbx.size, fun i hi => hbx.block i (by omega)⟩))
        have bb2 := Below.next bb1 b1
        have cx0 := kx.here.cell 0 _ rfl
        have cx1 := kx.here.cell 1 _ rfl
        have co0 := ko.here.cell 0 _ rfl
        have co1 := ko.here.cell 1 _ rfl
        have HKO2 := Lib.hid ko
        have HKR2 := Lib.hid kr
        have HB2 := Lib.hid bb2
        clear k0 k1 rdx kx ko kr bb1 bb2 hc0 hc1 ha hox
        go_wp2_with fail
        refine (implIntAdd_any _ _ s x _ (by omega) hxl (OwnS.mk (x := s) (ownI_of ou)) (OwnS.mk (x := x) (ownI_of ox))).mono ?_
        rintro e w2 ⟨u2, rfl, o2, b2⟩
        have ko3 := HKO2.out.below b2
        have kr3 := HKR2.out.below b2
        have bb3 := Below.next HB2.out b2
        rw [← HFS.out, ← HTS.out] at o2
        have e2 : addS s x = foldS (l.take (k + 1)) := by rw [HTS.out, HFS.out]
        rw [e2]
        have HALL := Lib.hid (HAS.out okx)
        clear e2 okx
        have hfo : Hid (∀ W : World, Hid (BoxAt (w.heap.size + 1) #[.bool (foldS (l.take (k + 1))).1, u2] 25 W) → Hid (W.ownsRow w.heap.size 3 1 u2 (foldS (l.take (k + 1))).2.length (intsV (foldS (l.take (k + 1))).2)) → Hid (BoxAt w.heap.size #[.bool false, .slice none 0 0] 25 W) → Hid (Below w.heap.size w W) →
          ∃ (k' : Nat) (u : Value), k' ≤ l.length ∧ Value.int .i64 ((k + 1 : Nat) : Int) = .int .i64 k' ∧ Hid ((l.take k').all okS = true) ∧ Hid (BoxAt (w.heap.size + 1) #[.bool (foldS (l.take k')).1, u] 25 W) ∧ Hid (W.ownsRow w.heap.size 3 1 u (foldS (l.take k')).2.length (intsV (foldS (l.take k')).2)) ∧ Hid (BoxAt w.heap.size #[.bool false, .slice none 0 0] 25 W) ∧ Hid (Below w.heap.size w W)) :=
          Lib.hid fun W h1 h2 h3 h4 => ⟨k + 1, u2, by omega, rfl, HALL, h1, h2, h3, h4⟩
        generalize foldS (l.take (k + 1)) = s2 at *
        obtain ⟨A2, c2, rfl⟩ := own_len o2
        have cz0 := ko3.here.cell 0 _ rfl
        have cz1 := ko3.here.cell 1 _ rfl
        have fz0 := Lib.frozen_of_heap ko3.here 0
        have fz1 := Lib.frozen_of_heap ko3.here 1
        have hne := Lib.ownBlock_ne o2 ko3.here (by decide)
        have h1 := set_box (a := .bool s2.1) (b := .slice A2 s2.2.length c2) ko3.here
        have h2 : ((w2.setCell ⟨w.heap.size + 1, 0, none⟩ (.bool s2.1)).setCell ⟨w.heap.size + 1, 1, none⟩ (.slice A2 s2.2.length c2)).ownsRow w.heap.size 3 1 (.slice A2 s2.2.length c2) s2.2.length (intsV s2.2) := own_stays (own_low o2 (by have := HB2.out.size; omega)) fun i hi => by
          have : i ≠ w.heap.size + 1 := fun e => hne (by rw [hi, e])
          exact (Below.heap_setCell _ _ _ _ this).trans (Below.heap_setCell _ _ _ _ this)
        have h3 : BoxAt w.heap.size #[.bool false, .slice none 0 0] 25 ((w2.setCell ⟨w.heap.size + 1, 0, none⟩ (.bool s2.1)).setCell ⟨w.heap.size + 1, 1, none⟩ (.slice A2 s2.2.length c2)) := by
          have hn : w.heap.size ≠ w.heap.size + 1 := by omega
          exact ((Below.heap_setCell _ _ _ _ hn).trans (Below.heap_setCell _ _ _ _ hn)).trans kr3.here
        have h4 : Below w.heap.size w ((w2.setCell ⟨w.heap.size + 1, 0, none⟩ (.bool s2.1)).setCell ⟨w.heap.size + 1, 1, none⟩ (.slice A2 s2.2.length c2)) := below_set2 bb3 (by omega)
        have HREL := Lib.hid (hfo.out _ (Lib.hid h1) (Lib.hid h2) (Lib.hid h3) (Lib.hid h4))
        clear h1 h2 h3 h4 ko3 kr3 bb3 o2 b2 hne cx0 cx1 co0 co1 ou ox
        go_wp2
        go_roundw
        case rel => exact HREL.out
        case measure => simp [intOf]; omega
      · have okx' : okS x = false := by simpa using okx
        go_wp2_with fail
        refine (implIntOk_any _ x _ hxl rdx).mono ?_
        rintro e w1 ⟨rfl, b1⟩
        rw [okx']
        replace kr := kr.below b1
        have bb1 := (HB.out.trans (show Below w.heap.size wr _ from ⟨hbx.os, hbx.tape, hbx.output, hbx.size, fun i hi => hbx.block i (by omega)⟩))
        have bb2 := Below.next bb1 b1
        have cz0 := kr.here.cell 0 _ rfl
        have cz1 := kr.here.cell 1 _ rfl
        have fz0 := Lib.frozen_of_heap kr.here 0
        have fz1 := Lib.frozen_of_heap kr.here 1
        have HV := Lib.hid (HSB.out okx)
        clear k0 k1 rdx kx ko kr hc0 hc1 ha hox ou ox okx okx' bb1
        go_wp2
        refine bodyPost_ret (v := .agg #[.bool false, .slice none 0 0]) (by simp [results, Tryz.results46, go_sem, cz0, cz1]) rfl ?_
        rw [HV.out]
        exact newS_zero (below_set2 bb2 (Nat.le_refl _))
    · obtain rfl : k = l.length := by omega
      have HV := Lib.hid (show sumS l = foldS l from sumS_ok (by have := HA.out; rwa [List.take_length] at this))
      rw [List.take_length] at HO HU
      generalize foldS l = s at *
      have co0 := HO.out.cell 0 _ rfl
      have co1 := HO.out.cell 1 _ rfl
      have cz0 := HR.out.cell 0 _ rfl
      have cz1 := HR.out.cell 1 _ rfl
      have fz0 := Lib.frozen_of_heap HR.out 0
      have fz1 := Lib.frozen_of_heap HR.out 1
      go_wp2
      refine bodyPost_ret (v := .agg #[.bool _, .slice Au _ cu]) (by simp [results, Tryz.results46, go_sem, cz0, cz1]; exact ⟨rfl, rfl⟩) rfl ?_
      rw [HV.out]
      exact newS_ret HR.out HU.out (Nat.le_refl _) (Nat.le_refl _) HB.out
end Go.Proofs.YtcenmdiblbooeaaGreatDoor

namespace Go.Proofs.YtcenmdiblbooeaaGreatDoor
open Go.RowKit

theorem all_two (m n : MI) : [m, n].all (fitM m.1) = bothM m n := by
  simp only [List.all_cons, List.all_nil, Bool.and_true, fitM, bothM]
  rw [show decide (n.1 = m.1) = decide (m.1 = n.1) from decide_eq_decide.2 ⟨Eq.symm, Eq.symm⟩]
  simp [Bool.and_assoc]
theorem sum_two (m n : MI) : sumM m.1 [m, n] = addM m n := by
  unfold sumM addM
  rw [all_two]
  by_cases h : bothM m n = true
  · rw [if_pos h, if_pos h]
    have hm := (okM_parts (bothM_parts h).1).2.1
    show makeM m.1 (addS (addS zeroS m.2) n.2) = _
    rw [addS_zeroL hm]
  · rw [if_neg h, if_neg h]
theorem sum_units {l : List MI} (h : ∀ m ∈ l, okM m = true) : sumS (l.map fun m => m.2) = foldU l := by
  unfold sumS foldU
  rw [if_pos (by rw [List.all_eq_true]; intro x hx; obtain ⟨m, hm, rfl⟩ := List.mem_map.1 hx; exact (okM_parts (h m hm)).2.1), List.foldl_map]
end Go.Proofs.YtcenmdiblbooeaaGreatDoor

namespace Go.Proofs.YtcenmdiblbooeaaGreatDoor
open Go.RowKit

/-! ### a written amount is read back -/
theorem index_hitM (a b : List UInt8) (h : ∀ c ∈ a, c ≠ 32) : Lib.indexByte (a ++ 32 :: b) 32 = a.length := by
  have hg := Lib.indexByte_ge (a ++ 32 :: b) 32
  have hat : (a ++ 32 :: b)[a.length]? = some 32 := by rw [List.getElem?_append_right (Nat.le_refl _), Nat.sub_self]; rfl
  by_cases e : Lib.indexByte (a ++ 32 :: b) 32 = -1
  · exact absurd hat (Lib.indexByte_none e _)
  · have ho : Lib.indexByte (a ++ 32 :: b) 32 = ((Lib.indexByte (a ++ 32 :: b) 32).toNat : Nat) := by omega
    obtain ⟨h1, h2⟩ := Lib.indexByte_some ho
    generalize (Lib.indexByte (a ++ 32 :: b) 32).toNat = o at *
    rcases Nat.lt_trichotomy o a.length with hl | hl | hl
    · rw [List.getElem?_append_left hl] at h1
      exact absurd rfl (h 32 (List.mem_of_getElem? h1))
    · rw [ho, hl]
    · exact absurd hat (h2 _ hl)
theorem code_nospace {c : ByteArray} (h : knownC c = true) : ∀ x ∈ c.data.toList, x ≠ 32 := by
  obtain ⟨r, hr, e, _⟩ := known_row h
  rw [← e]
  have h : (specT.all fun r => r.1.data.toList.all fun x => decide (x ≠ 32)) = true := by decide +kernel
  have h1 := List.all_eq_true.1 h r hr
  intro x hx
  exact of_decide_eq_true (List.all_eq_true.1 h1 x hx)
theorem text_parts {m : MI} (h : okM m = true) : hdM (textM m) = m.1 ∧ tlM (textM m) = textD (m.2, placesC m.1) := by
  have hl : (textM m).data.toList = m.1.data.toList ++ 32 :: (textD (m.2, placesC m.1)).data.toList := by
    unfold textM
    rw [if_pos h, ByteArray.data_append, ByteArray.data_append, Array.toList_append, Array.toList_append]
    simp
  have hs : spaceAt (textM m) = m.1.size := by
    unfold spaceAt
    rw [hl, index_hitM _ _ (code_nospace (okM_parts h).1)]
    rfl
  have hz : (textM m).size = m.1.size + 1 + (textD (m.2, placesC m.1)).size := by
    rw [← listB_len (textM m), hl, List.length_append, List.length_cons, listB_len, listB_len]
    omega
  constructor
  · unfold hdM
    rw [if_neg (by omega), hs, Int.toNat_natCast]
    apply listB
    rw [extract_listD, hl, List.drop_zero, List.take_append_of_le_length (Nat.le_of_eq (listB_len m.1).symm), List.take_of_length_le (Nat.le_of_eq (listB_len m.1))]
  · unfold tlM
    rw [if_neg (by omega), hs, Int.toNat_natCast]
    apply listB
    rw [extract_listD, List.take_of_length_le (Nat.le_of_eq (listB_len _)), hl, ← listB_len m.1, show m.1.data.toList.length + 1 = m.1.data.toList.length + 1 from rfl, List.drop_append, List.drop_of_length_le (by omega), List.nil_append, show m.1.data.toList.length + 1 - m.1.data.toList.length = 1 by omega]
    rfl
theorem trM_text {m : MI} (h : okM m = true) : trM (textM m) = (m, true) := by
  obtain ⟨h1, h2⟩ := text_parts h
  obtain ⟨k1, k2, k3⟩ := okM_parts h
  have hp := placesC_range m.1
  have hd : okD (m.2, placesC m.1) = true := by
    unfold okD
    rw [k2, decide_eq_true (show (m.2, placesC m.1).1.2.length ≤ 6 by show m.2.2.length ≤ 6; omega), decide_eq_true (show 0 ≤ (m.2, placesC m.1).2 ∧ (m.2, placesC m.1).2 ≤ 30 by show 0 ≤ placesC m.1 ∧ placesC m.1 ≤ 30; omega)]
    rfl
  have ht : trD (tlM (textM m)) = ((m.2, placesC m.1), true) := by rw [h2]; exact trD_text hd
  have hr : readM (textM m) = m := by unfold readM; rw [h1, ht]
  rw [trM_good (by rw [ht]) (by rw [hr]), hr]
/-! ### sums -/
def sameI (m n : MI) : Bool := (cmpM m n).2 && decide ((cmpM m n).1 = 0)
theorem same_self {m : MI} (h : okM m = true) : sameI m m = true := by
  have hb : bothM m m = true := by unfold bothM; rw [h, decide_eq_true rfl]; rfl
  have hk := (okM_parts h).2.1
  unfold sameI cmpM
  rw [if_pos hb]
  unfold cmpS
  rw [if_pos ⟨hk, hk⟩]
  unfold cmpI
  rw [if_neg (by omega), if_neg (by omega)]
  rfl
theorem bp_twice : bp 3 + bp 3 ≤ bp 4 := by decide
theorem make_ofZ {c : ByteArray} {z : Int} (hc : knownC c = true) (h : (z.natAbs : Int) < bp 4) : makeM c (ofZ z) = ((c, ofZ z), true) ∧ okM (c, ofZ z) = true := by
  have h1 : okM (c, ofZ z) = true := okM_of hc (ofZ_ok z) ((few_len (by omega)).2 h).1
  unfold makeM
  rw [if_pos h1]
  exact ⟨rfl, h1⟩
structure MoneyAll (m n S T N Z : MI) : Prop where
  okm : okM m = true
  okn : okM n = true
  oks : okM S = true
  okt : okM T = true
  okN : okM N = true
  okz : okM Z = true
  add : addM m n = (S, true)
  sub : subM S n = (m, true)
  two : timesM m 2 = (T, true)
  twice : addM m m = (T, true)
  neg : negM m = (N, true)
  sum : sumM m.1 [m, N] = (Z, true)
  zero : cmpS Z.2 zeroS = 0
  cmp : cmpM m n = (cmpS m.2 n.2, true)
theorem money_all {m n : MI} (hm : ShortM m) (hn : ShortM n) (he : m.1 = n.1) : ∃ S T N Z, MoneyAll m n S T N Z := by
  obtain ⟨m1, m2, m3⟩ := hm
  obtain ⟨n1, n2, n3⟩ := hn
  have okm : okM m = true := okM_of m1 m2 (by omega)
  have okn : okM n = true := okM_of n1 n2 (by omega)
  have lm := few_lt m2 m3
  have ln := few_lt n2 n3
  have b := bp_twice
  obtain ⟨s1, s2⟩ := make_ofZ (c := m.1) (z := valS m.2 + valS n.2) m1 (by omega)
  obtain ⟨t1, t2⟩ := make_ofZ (c := m.1) (z := valS m.2 + valS m.2) m1 (by omega)
  have hbp : bp 4 ≤ bp 50 := bp_mono (by omega)
  have vs := (ofZ_few (z := valS m.2 + valS n.2) (k := 4) (by omega) (by omega)).2
  have v2 : valS (ofZ 2) = 2 := (ofZ_few (z := 2) (k := 4) (by decide) (by omega)).2
  have bmn : bothM m n = true := by unfold bothM; rw [okm, okn, decide_eq_true he]; rfl
  have bmm : bothM m m = true := by unfold bothM; rw [okm, decide_eq_true rfl]; rfl
  have bsn : bothM (m.1, ofZ (valS m.2 + valS n.2)) n = true := by unfold bothM; rw [s2, okn, decide_eq_true he]; rfl
  have okN := okM_negS okm
  have bmN : bothM m (m.1, negS m.2) = true := by unfold bothM; rw [okm, okN, decide_eq_true rfl]; rfl
  refine ⟨(m.1, ofZ (valS m.2 + valS n.2)), (m.1, ofZ (valS m.2 + valS m.2)), (m.1, negS m.2), (m.1, zeroS), okm, okn, s2, t2, okN, okM_of (m := (m.1, zeroS)) m1 zeroS_ok (Nat.zero_le _), ?_, ?_, ?_, ?_, ?_, ?_, ?_, ?_⟩
  · unfold addM addS
    rw [if_pos bmn, if_pos ⟨m2, n2⟩, s1]
  · unfold subM subS
    rw [if_pos bsn, if_pos ⟨(okM_parts s2).2.1, n2⟩, vs, show valS m.2 + valS n.2 - valS n.2 = valS m.2 by omega, okS_ofZ m2]
    unfold makeM
    rw [if_pos okm]
  · unfold timesM mulS
    rw [if_pos okm, if_pos ⟨m2, ofZ_ok 2⟩, v2, show valS m.2 * 2 = valS m.2 + valS m.2 by omega, t1]
  · unfold addM addS
    rw [if_pos bmm, if_pos ⟨m2, m2⟩, t1]
  · rw [negM_good okm, negS_parts m2]
  · rw [sum_two m (m.1, negS m.2)]
    unfold addM addS
    rw [if_pos bmN, if_pos ⟨m2, negS_ok _⟩, negS_val m2, Int.add_right_neg, ofZ_zero]
    unfold makeM
    rw [if_pos (okM_of (m := (m.1, zeroS)) m1 zeroS_ok (Nat.zero_le _))]
  · rfl
  · unfold cmpM
    rw [if_pos bmn]
theorem add_mixed {m o : MI} (h : ¬ m.1 = o.1) : addM m o = (zeroM, false) := by
  unfold addM
  rw [if_neg]
  unfold bothM
  rw [decide_eq_false h, Bool.and_false]
  decide
end Go.Proofs.YtcenmdiblbooeaaGreatDoor

namespace Go.Proofs.YtcenmdiblbooeaaGreatDoor
open Go.RowKit

theorem postnb_isM {q : Int × Bool} {X : Int} {b : Bool} (e : q = (X, b)) {w w' : World} {n : Ending} (h : Postnb q.1 q.2 w n w') : Postnb X b w n w' := by rw [e] at h; exact h
set_option maxHeartbeats 1000000 in
set_option maxRecDepth 100000 in
theorem implMoneySame_any (va vb : Value) (a b : MI) (w : World) (hla : a.2.2.length ≤ 1048576) (hlb : b.2.2.length ≤ 1048576) (ha : OwnM va a w) (hb : OwnM vb b w) (ht : CurTab w) :
    Calls Tryz.prog 13 #[va, vb] w (Postb (sameI a b) w) := by
  have Ha := Lib.hid ha
  obtain ⟨Aa, ca, rfl⟩ := ownM_form ha
  have OMa := Lib.hid (show ∀ W, Below w.heap.size w W → OwnM (.agg #[.string a.1, .bool a.2.1, .slice Aa a.2.2.length ca]) a W from fun W hb => OwnM.below Ha.out hb)
  have OIa := Lib.hid (show ∀ W, Below w.heap.size w W → OwnI (.slice Aa a.2.2.length ca) a.2.2 W from fun W hb => ownM_open (OMa.out W hb))
  have OSa := Lib.hid (show ∀ W, Below w.heap.size w W → OwnS (.agg #[.bool a.2.1, .slice Aa a.2.2.length ca]) a.2 W from fun W hb => OwnS.mk (OIa.out W hb))
  clear ha
  have Hb := Lib.hid hb
  obtain ⟨Ab, cb, rfl⟩ := ownM_form hb
  have OMb := Lib.hid (show ∀ W, Below w.heap.size w W → OwnM (.agg #[.string b.1, .bool b.2.1, .slice Ab b.2.2.length cb]) b W from fun W hb => OwnM.below Hb.out hb)
  have OIb := Lib.hid (show ∀ W, Below w.heap.size w W → OwnI (.slice Ab b.2.2.length cb) b.2.2 W from fun W hb => ownM_open (OMb.out W hb))
  have OSb := Lib.hid (show ∀ W, Below w.heap.size w W → OwnS (.agg #[.bool b.2.1, .slice Ab b.2.2.length cb]) b.2 W from fun W hb => OwnS.mk (OIb.out W hb))
  clear hb
  have HT := Lib.hid ht
  clear ht
  have bb0 : Below w.heap.size w ((w.alloc (.cells #[.string a.1, .bool a.2.1, .slice Aa a.2.2.length ca] 27)).alloc (.cells #[.string b.1, .bool b.2.1, .slice Ab b.2.2.length cb] 27)) := below_al (below_al (Below.refl _ _) _) _
  have ka := (box_new w #[.string a.1, .bool a.2.1, .slice Aa a.2.2.length ca] 27).below (below_al (Below.refl _ _) (.cells #[.string b.1, .bool b.2.1, .slice Ab b.2.2.length cb] 27))
  have kb := (box_new (w.alloc (.cells #[.string a.1, .bool a.2.1, .slice Aa a.2.2.length ca] 27)) #[.string b.1, .bool b.2.1, .slice Ab b.2.2.length cb] 27)
  rw [show (w.alloc (.cells #[.string a.1, .bool a.2.1, .slice Aa a.2.2.length ca] 27)).heap.size = w.heap.size + 1 by simp] at kb
  obtain ⟨⟨c, cb⟩, hC⟩ : ∃ C, cmpM a b = C := ⟨_, rfl⟩
  have EC := Lib.hid hC
  have HV := Lib.hid (show sameI a b = (cb && decide (c = 0)) by unfold sameI; rw [hC])
  clear hC
  go_enter Tryz.func13, Tryz.ntmps13
  have ka_c0 := ka.here.cell 0 _ rfl
  have ka_c1 := ka.here.cell 1 _ rfl
  have ka_c2 := ka.here.cell 2 _ rfl
  have kb_c0 := kb.here.cell 0 _ rfl
  have kb_c1 := kb.here.cell 1 _ rfl
  have kb_c2 := kb.here.cell 2 _ rfl
  go_wp2_with fail
  clear ka_c0 ka_c1 ka_c2 kb_c0 kb_c1 kb_c2
  refine ((implMoneyCmp_any _ _ a b _ hla hlb (OMa.out _ bb0) (OMb.out _ bb0) (HT.out.below bb0)).mono fun _ _ h => postnb_isM EC.out h).mono ?_
  rintro e w1 ⟨rfl, b1⟩
  have bb1 := Below.next bb0 b1
  replace ka := ka.below b1
  replace kb := kb.below b1
  cases cb with
  | false =>
    go_wp2
    go_ret
    exact ⟨ret_bool (by rw [HV.out]; rfl), bb1⟩
  | true =>
    by_cases hc : c = 0
    · subst hc
      go_wp2
      go_ret
      exact ⟨ret_bool (by rw [HV.out]; rfl), bb1⟩
    · have hcb : (c == 0) = false := by rw [beq_eq_false_iff_ne]; exact hc
      have HV2 := Lib.hid (show sameI a b = false by rw [HV.out, decide_eq_false hc]; rfl)
      clear hc
      go_wp2
      go_ret
      exact ⟨ret_bool HV2.out.symm, bb1⟩
end Go.Proofs.YtcenmdiblbooeaaGreatDoor

namespace Go.Proofs.YtcenmdiblbooeaaGreatDoor
open Go.RowKit

set_option maxHeartbeats 4000000 in
set_option maxRecDepth 100000 in
theorem makeMoneys_any (v : Value) (bs : List Nat) (w : World) (hb : ∀ b ∈ bs, b < 256) (hn : bs.length ≤ 1048576) (hr : Row w 0 w.heap.size v (bytesV bs)) :
    Calls Tryz.prog 6 #[v] w (MoneysPost w) := by
  have HB := Lib.hid hb
  clear hb
  have hbb : Below w.heap.size w ((w.alloc (.cells #[.string ⟨#[]⟩, .bool false, .slice none 0 0] 27)).alloc (.cells #[.string ⟨#[]⟩, .bool false, .slice none 0 0] 27)) := below_al (below_al (Below.refl _ _) _) _
  have ka := (box_new w #[.string ⟨#[]⟩, .bool false, .slice none 0 0] 27).below (below_al (Below.refl _ _) (.cells #[.string ⟨#[]⟩, .bool false, .slice none 0 0] 27))
  have kb := box_new (w.alloc (.cells #[.string ⟨#[]⟩, .bool false, .slice none 0 0] 27)) #[.string ⟨#[]⟩, .bool false, .slice none 0 0] 27
  rw [show (w.alloc (.cells #[.string ⟨#[]⟩, .bool false, .slice none 0 0] 27)).heap.size = w.heap.size + 1 by simp] at kb
  obtain ⟨W0, hW0⟩ : ∃ W0, W0 = ((w.alloc (.cells #[.string ⟨#[]⟩, .bool false, .slice none 0 0] 27)).alloc (.cells #[.string ⟨#[]⟩, .bool false, .slice none 0 0] 27)) := ⟨_, rfl⟩
  rw [← hW0] at hbb ka kb
  have HW := Lib.hid hW0
  have hz0 := kb.lt (w.heap.size + 1) (by simp)
  have hr0 := hr.below hbb (Nat.le_refl _)
  obtain ⟨P, hP⟩ : ∃ P, codesT specT = P := ⟨_, rfl⟩
  have hPl : 0 < P.length ∧ P.length ≤ 1048576 ∧ P.length = 20 := by rw [← hP]; exact ⟨by decide, by decide, rfl⟩
  have EP := Lib.hid hP
  clear hW0 hr hP
  go_enter Tryz.func6, Tryz.ntmps6
  go_wp2_with fail
  rw [← HW.out]
  refine (l01New_any 0 w.heap.size v bs _ HB.out hn hr0).mono ?_
  rintro e w1 ⟨g, hg, rfl, hc1, b1⟩
  have hr1 := hr0.below b1 (by omega)
  replace ka := ka.below b1
  replace kb := kb.below b1
  have bb1 := Below.next hbb b1
  have hgl := hc1.lt
  clear hr0 hbb
  go_wp2_with fail
  refine (specCurs_any _).mono ?_
  rintro e wc ⟨vC, rfl, oC, bc⟩
  rw [EP.out] at oC
  have hrc := hr1.below bc (by have := bb1.size; omega)
  replace ka := ka.below bc
  replace kb := kb.below bc
  have bbc := Below.next bb1 bc
  have hcc := hc1.below bc
  clear hr1 hc1 bb1
  go_wp2_with fail
  refine (l01Str_any P vC w1.heap.size wc.heap.size g 0 w.heap.size v bs _ hPl.1 hPl.2.1 HB.out hn hcc hrc (by omega) (Row.of_own oC) (.inr hgl)).mono ?_
  rintro e wp ⟨cu, hcu, rfl, hcp, hgp⟩
  have hkp := Chg.of_cur hgp
  have HCU := Lib.hid (show knownC cu = true from known_of_mem (by rw [EP.out]; exact hcu))
  have hrp : Row wp 0 w.heap.size v (bytesV bs) := hrc.stays (fun p hp => World.cell?_of_block (hkp.block _ (by have := bbc.size; omega) (by simp; omega)))
  replace ka := ka.chg hkp (fun i hi hm => by simp at hi hm; omega)
  replace kb := kb.chg hkp (fun i hi hm => by simp at hi hm; omega)
  have bbp := below_chg bbc hkp bbc.size (fun i hi => by simp at hi; omega)
  have hzc := bc.size
  have hzp := hkp.size
  clear hrc hcc bbc hgp hkp oC hcu hPl EP
  go_wp2_with fail
  refine (l04Draw_any3 g 0 w.heap.size v bs _ HB.out hn hcp hrp (by omega)).mono ?_
  rintro e w2 ⟨u1, x, rfl, okx, lx, ox, hc2, hk2⟩
  obtain ⟨Ax, cx, rfl⟩ := own_len ox
  have HSX := Lib.hid (show ShortM (cu, x) from ⟨HCU.out, okx, lx⟩)
  have LD := Lib.hid (show ∀ i ∈ (Value.slice Ax x.2.length cx).ownBlock.toList, g < i ∧ w.heap.size + 1 < i from fun i hi => by have := own_within ox i hi; omega)
  have o_d := (own_at' ox).imp (fun _ h => (OwnM.mk (q := (cu, x)) h : OwnM (.agg #[.string cu, .bool x.1, .slice Ax x.2.length cx]) (cu, x) _))
  have hr2 : Row w2 0 w.heap.size v (bytesV bs) := hrp.stays (fun p hp => World.cell?_of_block (hk2.block _ (by have := bbp.size; omega) (by simp; omega)))
  replace ka := ka.chg hk2 (fun i hi hm => by simp at hi hm; omega)
  replace kb := kb.chg hk2 (fun i hi hm => by simp at hi hm; omega)
  have bb2 := below_chg bbp hk2 bbp.size (fun i hi => by simp at hi; omega)
  have hz2 := hk2.size
  have hx := below_al (Below.refl w2.heap.size w2) (.cells #[.string cu, .bool x.1, .slice Ax x.2.length cx] 27)
  have k6 := box_new w2 #[.string cu, .bool x.1, .slice Ax x.2.length cx] 27
  obtain ⟨W2, hW2⟩ : ∃ W2, W2 = w2.alloc (.cells #[.string cu, .bool x.1, .slice Ax x.2.length cx] 27) := ⟨_, rfl⟩
  rw [← hW2] at hx k6
  have HW2 := Lib.hid hW2
  replace o_d := o_d.below hx
  replace ka := ka.below hx
  replace kb := kb.below hx
  have hc3 := hc2.below hx
  have hr3 := hr2.below hx (by have := bb2.size; omega)
  have bb3 := Below.next bb2 hx
  have hz3 := k6.lt w2.heap.size (by simp)
  clear hW2 hrp hr2 hcp hc2 hk2 hx bbp bb2 ox okx lx
  have cx0 := k6.here.cell 0 _ rfl
  have cx1 := k6.here.cell 1 _ rfl
  have cx2 := k6.here.cell 2 _ rfl
  go_upto_region 4 with fail
  rw [← HW2.out]
  go_cut [] (fun wx => ∃ (t : SI) (At_ : Option Addr) (ct : Nat) (St : List Nat), ShortM (cu, t) ∧ BoxAt w.heap.size #[.string cu, .bool x.1, .slice Ax x.2.length cx] 27 wx ∧ BoxAt (w.heap.size + 1) #[.string cu, .bool t.1, .slice At_ t.2.length ct] 27 wx ∧ At (Value.slice Ax x.2.length cx).ownBlock.toList (OwnM (.agg #[.string cu, .bool x.1, .slice Ax x.2.length cx]) (cu, x)) wx ∧ At St (OwnM (.agg #[.string cu, .bool t.1, .slice At_ t.2.length ct]) (cu, t)) wx ∧ Below w.heap.size w wx)
  case first =>
    have HC := Lib.hid (show Cur W2.drew g v bs.length from hc3)
    have HR := Lib.hid (show Row W2.drew 0 w.heap.size v (bytesV bs) from hr3)
    have H6 := Lib.hid (k6.drewN 1)
    have HA := Lib.hid (ka.drewN 1)
    have HBx := Lib.hid (kb.drewN 1)
    have HOD := Lib.hid (o_d.drewN 1)
    have HBB := Lib.hid (show Below w.heap.size w W2.drew from bb3.drew)
    have hwz : W2.drew.heap.size = W2.heap.size := rfl
    clear hc3 hr3 k6 ka kb o_d bb3
    go_region_with (go_at_call 32; refine (l04Draw_any3 g 0 w.heap.size v bs _ HB.out hn HC.out HR.out (by omega)).mono ?_; rintro e w4 ⟨u3, t, rfl, okt, lt, ot, hc6, hk6⟩; obtain ⟨At_, ct, rfl⟩ := own_len ot; have k6b := H6.out.chg hk6 (fun i hi hm => by simp at hi hm; omega); have kab := HA.out.chg hk6 (fun i hi hm => by simp at hi hm; omega); have kbb := HBx.out.chg hk6 (fun i hi hm => by simp at hi hm; omega); (have dx0 := k6b.here.cell 0 _ rfl); (have dx1 := k6b.here.cell 1 _ rfl); (have dx2 := k6b.here.cell 2 _ rfl); (have da0 := kab.here.cell 0 _ rfl); (have da1 := kab.here.cell 1 _ rfl); (have da2 := kab.here.cell 2 _ rfl); (have db0 := kbb.here.cell 0 _ rfl); (have db1 := kbb.here.cell 1 _ rfl); (have db2 := kbb.here.cell 2 _ rfl); (have fa0 := Lib.frozen_of_heap kab.here 0); (have fa1 := Lib.frozen_of_heap kab.here 1); (have fa2 := Lib.frozen_of_heap kab.here 2); (have fb0 := Lib.frozen_of_heap kbb.here 0); (have fb1 := Lib.frozen_of_heap kbb.here 1); (have fb2 := Lib.frozen_of_heap kbb.here 2); have HOT := Lib.hid (And.intro (show ShortM (cu, t) from ⟨HCU.out, okt, lt⟩) ((own_at' ot).imp (fun _ h => (OwnM.mk (q := (cu, t)) h : OwnM (.agg #[.string cu, .bool t.1, .slice At_ t.2.length ct]) (cu, t) _)))); have HLT := Lib.hid (own_within ot); have HK := Lib.hid hk6; have HKA := Lib.hid kab; have HKB := Lib.hid kbb; clear k6b kab kbb ot lt okt hc6 hk6)
    all_goals
      go_wp2_with fail
      go_meet
      obtain ⟨F, hF, f1, f2, f4, f5, f7⟩ := moneys_laid (w := w) rfl HKA.out HKB.out (HOD.out.chg HK.out (fun i hi hm => by have := (LD.out i hi).1; simp at hm; omega)) HOT.out.2 (fun i hi => (LD.out i hi).2) (fun i hi => by have := (HLT.out i hi).1; omega) (below_chg HBB.out HK.out HBB.out.size (fun i hi => by rw [List.mem_singleton.1 hi]; omega))
      rw [← hF]
      exact ⟨t, At_, ct, _, HOT.out.1, f1, f2, f4, f5, f7⟩
  rename World => w5
  obtain ⟨t, At_, ct, St, hbt, k1, k2, o1, o2, bb6⟩ := hcut
  have ca0 := k1.cell 0 _ rfl
  have ca1 := k1.cell 1 _ rfl
  have ca2 := k1.cell 2 _ rfl
  have cb0 := k2.cell 0 _ rfl
  have cb1 := k2.cell 1 _ rfl
  have cb2 := k2.cell 2 _ rfl
  have HFIN := Lib.hid (show MoneysPost w (.returned (.tuple #[.agg #[.string cu, .bool x.1, .slice Ax x.2.length cx], .agg #[.string cu, .bool t.1, .slice At_ t.2.length ct]])) w5 from ⟨_, _, (cu, x), (cu, t), _, St, rfl, HSX.out, hbt, rfl, o1, o2, bb6⟩)
  clear cx0 cx1 cx2 k1 k2 o1 o2 bb6
  go_wp2
  refine bodyPost_ret (v := .tuple #[.agg #[.string cu, .bool x.1, .slice Ax x.2.length cx], .agg #[.string cu, .bool t.1, .slice At_ t.2.length ct]]) (by simp [results, Tryz.results6, go_sem, ca0, ca1, ca2, cb0, cb1, cb2]) rfl ?_
  exact HFIN.out
end Go.Proofs.YtcenmdiblbooeaaGreatDoor

namespace Go.Proofs.YtcenmdiblbooeaaGreatDoor
open Go.RowKit

set_option maxHeartbeats 2000000 in
set_option maxRecDepth 100000 in
theorem copyMoney_any (vm : Value) (m : MI) (w : World) (hl : m.2.2.length ≤ 1048576) (hm : OwnM vm m w) : Calls Tryz.prog 44 #[vm] w (NewV (fun v => OwnM v m) w) := by
  obtain ⟨Am, cm, rfl⟩ := ownM_form hm
  have hrow := (ownM_open hm).row
  have bb0 : Below w.heap.size w ((w.alloc (.cells #[.string m.1, .bool m.2.1, .slice Am m.2.2.length cm] 27)).alloc (.cells #[.string ⟨#[]⟩, .bool false, .slice none 0 0] 27)) := below_al (below_al (Below.refl _ _) _) _
  have hz0 : ((w.alloc (.cells #[.string m.1, .bool m.2.1, .slice Am m.2.2.length cm] 27)).alloc (.cells #[.string ⟨#[]⟩, .bool false, .slice none 0 0] 27)).heap.size = w.heap.size + 1 + 1 := by simp
  have km := (box_new w #[.string m.1, .bool m.2.1, .slice Am m.2.2.length cm] 27).below (below_al (Below.refl _ _) (.cells #[.string ⟨#[]⟩, .bool false, .slice none 0 0] 27))
  have ko := box_new (w.alloc (.cells #[.string m.1, .bool m.2.1, .slice Am m.2.2.length cm] 27)) #[.string ⟨#[]⟩, .bool false, .slice none 0 0] 27
  rw [show (w.alloc (.cells #[.string m.1, .bool m.2.1, .slice Am m.2.2.length cm] 27)).heap.size = w.heap.size + 1 by simp] at ko
  have hmk := make_ints m.2.2.length (by omega)
  have al := below_al (Below.refl ((w.alloc (.cells #[.string m.1, .bool m.2.1, .slice Am m.2.2.length cm] 27)).alloc (.cells #[.string ⟨#[]⟩, .bool false, .slice none 0 0] 27)).heap.size ((w.alloc (.cells #[.string m.1, .bool m.2.1, .slice Am m.2.2.length cm] 27)).alloc (.cells #[.string ⟨#[]⟩, .bool false, .slice none 0 0] 27))) (.cells (madeCells #[.int .i64 0] m.2.2.length) 3)
  have bb1 := Below.next bb0 al
  have hr1 := (hrow.below bb0 (Nat.le_refl _)).below al (by have := bb0.size; omega)
  have hh : (((w.alloc (.cells #[.string m.1, .bool m.2.1, .slice Am m.2.2.length cm] 27)).alloc (.cells #[.string ⟨#[]⟩, .bool false, .slice none 0 0] 27)).alloc (.cells (madeCells #[.int .i64 0] m.2.2.length) 3)).heap[w.heap.size + 1 + 1]? = some (.cells (madeCells #[.int .i64 0] m.2.2.length).toList.toArray 3 (0, 0)) := by rw [← hz0]; exact heap_alloc_new _ _
  have km1 := km.below al
  have ko1 := ko.below al
  have hsz : (Tryz.prog.info? 3).map (·.size) = some 1 := by kernel_rfl
  have hlen : (intsV m.2.2).length = m.2.2.length := intsV_length _
  have hmlen : (madeCells #[Value.int .i64 0] m.2.2.length).toList.length = m.2.2.length := by rw [Array.length_toList, size_madeCells]
  have hpos : 0 < (intsV m.2.2).length → (some ⟨w.heap.size + 1 + 1, 0, none⟩ : Option Addr) = some ⟨w.heap.size + 1 + 1, 0, none⟩ ∧ ∃ ad, Am = some ad ∧ ∀ j v, (intsV m.2.2)[j]? = some v → (((w.alloc (.cells #[.string m.1, .bool m.2.1, .slice Am m.2.2.length cm] 27)).alloc (.cells #[.string ⟨#[]⟩, .bool false, .slice none 0 0] 27)).alloc (.cells (madeCells #[.int .i64 0] m.2.2.length) 3)).cell? (ad.add j) = some v := by
    intro h0
    obtain ⟨A', c', e, hA⟩ := hr1
    injection e with e1 _ _
    subst e1
    obtain ⟨ad, rfl, _, _, _⟩ := hA 0 _ (List.getElem?_eq_getElem h0)
    exact ⟨rfl, ad, rfl, fun j v hj => by obtain ⟨a2, e2, _, _, h⟩ := hA j v hj; cases e2; exact h⟩
  have hone : ∀ v ∈ intsV m.2.2, v.oneCell' = true := fun v hv => by obtain ⟨i, _, rfl⟩ := List.mem_map.1 hv; rfl
  have hfit : 0 + (intsV m.2.2).length ≤ (madeCells #[Value.int .i64 0] m.2.2.length).toList.length := by rw [hlen, hmlen]; omega
  have hmin : (intsV m.2.2).length = Nat.min m.2.2.length m.2.2.length := by rw [hlen]; exact (Nat.min_self _).symm
  have HSP := Lib.hid (show splice (madeCells #[Value.int .i64 0] m.2.2.length).toList 0 (intsV m.2.2) = intsV m.2.2 by unfold splice; rw [List.take_zero, List.nil_append, List.drop_of_length_le (by rw [hlen, hmlen]; omega), List.append_nil])
  have km_c2 := km.here.cell 2 _ rfl
  have kn_c2 := km1.here.cell 2 _ rfl
  have HKM := Lib.hid km1
  have HKO := Lib.hid ko1
  have HAL := Lib.hid al
  clear km1 ko1 km ko al hlen hmlen hr1 hrow
  go_enter Tryz.func44, Tryz.ntmps44
  go_wp2_with (with_reducible refine wpList_copy_splice rfl (.tmp 9) (.tmp 12) 23 23 rfl 3 Tryz.underlying23 hsz (some ⟨w.heap.size + 1 + 1, 0, none⟩) Am m.2.2.length m.2.2.length m.2.2.length cm rfl rfl (w.heap.size + 1 + 1) 0 (madeCells #[Value.int .i64 0] m.2.2.length).toList 3 hh (intsV m.2.2) hmin hpos hfit hone (w.heap.size + 1 + 1) (((w.alloc (.cells #[.string m.1, .bool m.2.1, .slice Am m.2.2.length cm] 27)).alloc (.cells #[.string ⟨#[]⟩, .bool false, .slice none 0 0] 27)).alloc (.cells (madeCells #[.int .i64 0] m.2.2.length) 3)) (Below.refl _ _) (Nat.le_refl _) ?_)
  intro w2 HG hB2
  have hz1 : (((w.alloc (.cells #[.string m.1, .bool m.2.1, .slice Am m.2.2.length cm] 27)).alloc (.cells #[.string ⟨#[]⟩, .bool false, .slice none 0 0] 27)).alloc (.cells (madeCells #[.int .i64 0] m.2.2.length) 3)).heap.size = w.heap.size + 1 + 1 + 1 := by simp
  have hch : Chg [w.heap.size + 1 + 1] (((w.alloc (.cells #[.string m.1, .bool m.2.1, .slice Am m.2.2.length cm] 27)).alloc (.cells #[.string ⟨#[]⟩, .bool false, .slice none 0 0] 27)).alloc (.cells (madeCells #[.int .i64 0] m.2.2.length) 3)) w2 := ⟨hB2.os, hB2.tape, hB2.output, hB2.size, fun i hi hn => hB2.block i (by rw [hz1] at hi; simp at hn; omega)⟩
  have hg2 := HG.out
  rw [HSP.out] at hg2
  have hlen : (intsV m.2.2).length = m.2.2.length := intsV_length _
  have bb2 : Below w.heap.size w w2 := below_chg bb1 hch bb1.size (fun i hi => by simp at hi; omega)
  have km2 := HKM.out.chg hch (fun i hi hm => by simp at hi hm; omega)
  have ko2 := HKO.out.chg hch (fun i hi hm => by simp at hi hm; omega)
  have hown : w2.ownsRow (w.heap.size + 1 + 1) 3 1 (.slice (some ⟨w.heap.size + 1 + 1, 0, none⟩) m.2.2.length m.2.2.length) m.2.2.length (intsV m.2.2) :=
    ⟨by rw [hlen, Nat.mul_one], .inr ⟨w.heap.size + 1 + 1, m.2.2.length, (intsV m.2.2).toArray, rfl, Nat.le_refl _, hg2, Nat.le_refl _, by unfold maxLen; omega, by rw [List.size_toArray, hlen, Nat.mul_one], by rw [Nat.mul_one]; show (intsV m.2.2).take m.2.2.length = _; exact List.take_of_length_le (by rw [hlen]; exact Nat.le_refl _)⟩⟩
  have HW := Lib.hid (newV_chgM (φ := fun v => OwnM v m) (v := .agg #[.string m.1, .bool m.2.1, .slice (some ⟨w.heap.size + 1 + 1, 0, none⟩) m.2.2.length m.2.2.length]) (T := [w.heap.size + 1]) ((own_at' hown).imp fun _ h => (OwnM.mk h : OwnM _ m _)) (fun i hi hm => by have := own_within hown i hi; simp at hm; omega) (fun i hi => by simp at hi; omega) (fun i hi => by have := own_within hown i hi; omega) bb2)
  have cm0 := km2.here.cell 0 _ rfl
  have cm1 := km2.here.cell 1 _ rfl
  have cz0 := ko2.here.cell 0 _ rfl
  have cz1 := ko2.here.cell 1 _ rfl
  have cz2 := ko2.here.cell 2 _ rfl
  have fz0 := Lib.frozen_of_heap ko2.here 0
  have fz1 := Lib.frozen_of_heap ko2.here 1
  have fz2 := Lib.frozen_of_heap ko2.here 2
  clear HG hB2 hch hg2 bb2 km2 ko2 hown hh hpos hone hfit hmin HSP HKM HKO HAL km_c2 kn_c2 bb0 bb1 hz0 hz1 hmk
  go_wp2
  refine bodyPost_ret (v := .agg #[.string m.1, .bool m.2.1, .slice (some ⟨w.heap.size + 1 + 1, 0, none⟩) m.2.2.length m.2.2.length]) (by simp [results, Tryz.results44, go_sem, cz0, cz1, cz2]) rfl ?_
  refine HW.out _ ?_
  repeat (first | exact Chg.refl _ _ | refine Chg.setCell ?_ (by simp) _)
theorem postn_eqM {a b : Int} (h : a = b) {w w' : World} {e : Ending} (k : e = .returned (.int .i64 a) ∧ Below w.heap.size w w') : Postn b w e w' := by rw [← h]; exact k
set_option maxHeartbeats 4000000 in
set_option maxRecDepth 100000 in
theorem implMoneyNeg_any (va : Value) (a : MI) (w : World) (hla : a.2.2.length ≤ 1048576) (ha : OwnM va a w) (ht : CurTab w) :
    Calls Tryz.prog 15 #[va] w (PostMb (negM a).1 (negM a).2 w) := by
  have Ha := Lib.hid ha
  obtain ⟨Aa, ca, rfl⟩ := ownM_form ha
  have OMa := Lib.hid (show ∀ W, Below w.heap.size w W → OwnM (.agg #[.string a.1, .bool a.2.1, .slice Aa a.2.2.length ca]) a W from fun W hb => OwnM.below Ha.out hb)
  have OIa := Lib.hid (show ∀ W, Below w.heap.size w W → OwnI (.slice Aa a.2.2.length ca) a.2.2 W from fun W hb => ownM_open (OMa.out W hb))
  have OSa := Lib.hid (show ∀ W, Below w.heap.size w W → OwnS (.agg #[.bool a.2.1, .slice Aa a.2.2.length ca]) a.2 W from fun W hb => OwnS.mk (OIa.out W hb))
  clear ha
  have HT := Lib.hid ht
  clear ht
  have bb0 : Below w.heap.size w ((w.alloc (.cells #[.string a.1, .bool a.2.1, .slice Aa a.2.2.length ca] 27)).alloc (.cells #[.string ⟨#[]⟩, .bool false, .slice none 0 0] 27)) := below_al (below_al (Below.refl _ _) _) _
  have ka := (box_new w #[.string a.1, .bool a.2.1, .slice Aa a.2.2.length ca] 27).below (below_al (Below.refl _ _) (.cells #[.string ⟨#[]⟩, .bool false, .slice none 0 0] 27))
  have ko := (box_new (w.alloc (.cells #[.string a.1, .bool a.2.1, .slice Aa a.2.2.length ca] 27)) #[.string ⟨#[]⟩, .bool false, .slice none 0 0] 27)
  rw [show (w.alloc (.cells #[.string a.1, .bool a.2.1, .slice Aa a.2.2.length ca] 27)).heap.size = w.heap.size + 1 by simp] at ko
  have HKO := Lib.hid (ko.lt (w.heap.size + 1) (by simp))
  go_enter Tryz.func15, Tryz.ntmps15
  have ka_c0 := ka.here.cell 0 _ rfl
  have ka_c1 := ka.here.cell 1 _ rfl
  have ka_c2 := ka.here.cell 2 _ rfl
  go_wp2_with fail
  clear ka_c0 ka_c1 ka_c2
  refine (implMoneyOk_any _ a _ hla (OMa.out _ bb0) (HT.out.below bb0)).mono ?_
  rintro e w1 ⟨rfl, b1⟩
  have bb1 := Below.next bb0 b1
  replace ka := ka.below b1
  replace ko := ko.below b1
  by_cases ok : okM a = true
  · rw [ok]
    obtain ⟨sg, hsg⟩ : ∃ s, cmpS a.2 zeroS = s := ⟨_, rfl⟩
    have HV := Lib.hid (show negM a = ((a.1, (decide (0 < sg), a.2.2)), true) by rw [negM_good ok, hsg])
    have ESG := Lib.hid hsg
    clear ok hsg
    have ka_c0 := ka.here.cell 0 _ rfl
    have ka_c1 := ka.here.cell 1 _ rfl
    have ka_c2 := ka.here.cell 2 _ rfl
    go_wp2_with fail
    clear ka_c0 ka_c1 ka_c2
    refine (copyMoney_any _ a _ hla (OMa.out _ bb1)).mono ?_
    rintro e w2 ⟨uc, Sc, rfl, oc, lc, b2⟩
    obtain ⟨Ac, cc, rfl⟩ := ownM_form oc.here
    have bb2 := Below.next bb1 b2
    replace ka := ka.below b2
    replace ko := ko.below b2
    have kc := box_new (w2) #[.string a.1, .bool a.2.1, .slice Ac a.2.2.length cc] 27
    have alc := below_al (Below.refl (w2).heap.size (w2)) (.cells #[.string a.1, .bool a.2.1, .slice Ac a.2.2.length cc] 27)
    have bbc := Below.next bb2 alc
    replace ka := ka.below alc
    replace ko := ko.below alc
    replace oc := oc.below alc
    have HKC := Lib.hid (kc.lt w2.heap.size (by simp))
    have ka_c0 := ka.here.cell 0 _ rfl
    have ka_c1 := ka.here.cell 1 _ rfl
    have ka_c2 := ka.here.cell 2 _ rfl
    go_wp2_with fail
    clear ka_c0 ka_c1 ka_c2
    refine ((implIntSign_any _ a.2 _ hla (OSa.out _ bbc)).mono fun _ _ h => postn_eqM ESG.out h).mono ?_
    rintro e w3 ⟨rfl, b3⟩
    have bb3 := Below.next bbc b3
    replace ka := ka.below b3
    replace ko := ko.below b3
    replace oc := oc.below b3
    replace kc := kc.below b3
    have hcz : Chg [w2.heap.size] w3 (w3.setCell ⟨w2.heap.size, 1, none⟩ (.bool (decide (0 < sg)))) := (Chg.refl _ _).setCell (by simp) _
    have oc2 := (oc.chg hcz (fun i hi hm => by have := (lc i hi).2; simp at hm; omega)).imp (fun _ h => (show OwnM (.agg #[.string a.1, .bool (decide (0 < sg)), .slice Ac a.2.2.length cc]) (a.1, (decide (0 < sg), a.2.2)) _ from by have h2 := ownM_open h; exact OwnM.mk (q := (a.1, (decide (0 < sg), a.2.2))) h2))
    have hW2 := below_chg bb3 hcz bb3.size (fun i hi => by have := b1.size; have := HKO.out; simp at hi this; subst hi; have := b1.size; have := b2.size; simp at *; omega)
    have HW := Lib.hid (newMb_at (r := w.heap.size + 1) (b := true) (B := w.heap.size + 2) oc2 (fun i hi => ⟨by have := (lc i hi).1; have := b1.size; simp at *; omega, oc2.lt i hi⟩) (by omega) (by omega) hW2)
    have cz0 := ko.here.cell 0 _ rfl
    have fz0 := Lib.frozen_of_heap ko.here 0
    have cz1 := ko.here.cell 1 _ rfl
    have fz1 := Lib.frozen_of_heap ko.here 1
    have cz2 := ko.here.cell 2 _ rfl
    have fz2 := Lib.frozen_of_heap ko.here 2
    have cc0 := kc.here.cell 0 _ rfl
    have fc0 := Lib.frozen_of_heap kc.here 0
    have cc1 := kc.here.cell 1 _ rfl
    have fc1 := Lib.frozen_of_heap kc.here 1
    have cc2 := kc.here.cell 2 _ rfl
    have fc2 := Lib.frozen_of_heap kc.here 2
    have hn1 : ¬ w2.heap.size = w.heap.size + 1 := by have := b1.size; have := b2.size; simp at *; omega
    have hn2 : ¬ w.heap.size + 1 = w2.heap.size := fun e => hn1 e.symm
    clear oc oc2 hW2 hcz ko kc ka lc
    go_wp2
    refine bodyPost_ret (v := .tuple #[.agg #[.string a.1, .bool (decide (0 < sg)), .slice Ac a.2.2.length cc], .bool true]) (by simp [results, Tryz.results15, go_sem, cz0, cz1, cz2]) rfl ?_
    rw [HV.out]
    exact HW.out
  · have ok' : okM a = false := by simpa using ok
    have HV := Lib.hid (show negM a = (zeroM, false) from negM_bad ok)
    rw [ok']
    clear ok ok'
    have cz0 := ko.here.cell 0 _ rfl
    have fz0 := Lib.frozen_of_heap ko.here 0
    have cz1 := ko.here.cell 1 _ rfl
    have fz1 := Lib.frozen_of_heap ko.here 1
    have cz2 := ko.here.cell 2 _ rfl
    have fz2 := Lib.frozen_of_heap ko.here 2
    go_wp2
    refine bodyPost_ret (v := .tuple #[.agg #[.string ⟨#[]⟩, .bool false, .slice none 0 0], .bool false]) (by simp [results, Tryz.results15, go_sem, cz0, cz1, cz2]) rfl ?_
    rw [HV.out]
    first | exact newMb_zero _ bb1 | exact newMb_zero _ (below_set3 bb1 (by omega))
end Go.Proofs.YtcenmdiblbooeaaGreatDoor

namespace Go.Proofs.YtcenmdiblbooeaaGreatDoor
open Go.RowKit

/-- no longer than its room -/
def Roomy (v : Value) : Prop := ∀ A n c, v = .slice A n c → n ≤ c
theorem OwnML.roomy {v : Value} {l : List MI} {lo hi : Nat} {w : World} (h : OwnML v l lo hi w) : Roomy v := by
  obtain ⟨g, e, rfl, _⟩ := h
  intro A n c h
  cases h
  exact Nat.le_refl _
theorem ownMR_take {w : World} {A : Option Addr} {c c' n : Nat} {l : List MI} (h : OwnMR w (.slice A l.length c) l) (hn : n ≤ l.length) : OwnMR w (.slice A n c') (l.take n) := by
  obtain ⟨A', c2, e, h⟩ := h
  cases e
  refine ⟨A, c', by rw [List.length_take, Nat.min_eq_left hn], fun j x hj => h j x ?_⟩
  rw [List.getElem?_take] at hj
  split at hj
  · exact hj
  · cases hj
theorem OwnMR.below {w w' : World} {v : Value} {l : List MI} (h : OwnMR w v l) (hb : Below w.heap.size w w') : OwnMR w' v l := by
  obtain ⟨A, c, rfl, h⟩ := h
  refine ⟨A, c, rfl, fun j x hj => ?_⟩
  obtain ⟨a, u, rfl, h1, h2, h3, h4, h5⟩ := h j x hj
  exact ⟨a, u, rfl, Nat.lt_of_lt_of_le h1 hb.size, (cell_keep3' hb h1 j).trans h2, (cell_keep3 hb h1 j 1).trans h3, (cell_keep3 hb h1 j 2).trans h4, own_below h5 hb⟩
/-- the first elements that belong into the sum -/
def AmtPost (cu : ByteArray) (l : List MI) (w : World) (e : Ending) (w' : World) : Prop :=
  ∃ (n : Nat) (A : Option Addr) (c : Nat), e = .returned (.slice A n c) ∧ n ≤ l.length ∧ OwnMR w' (.slice A n c) (l.take n) ∧ (∀ m ∈ l.take n, fitM cu m = true) ∧ (∀ x, l[n]? = some x → ¬ fitM cu x = true) ∧ Below w.heap.size w w'
set_option maxHeartbeats 4000000 in
set_option maxRecDepth 100000 in
theorem amountsIn_any (cu : ByteArray) (v : Value) (l : List MI) (w : World) (hl : l.length ≤ 140737488355328) (hx : ∀ x ∈ l, x.2.2.length ≤ 1048576) (h : OwnMR w v l) (hr : Roomy v) (ht : CurTab w) :
    Calls Tryz.prog 45 #[.string cu, v] w (AmtPost cu l w) := by
  have HT := Lib.hid ht
  clear ht
  have h0 := h
  obtain ⟨A, c, rfl, hc⟩ := h
  have hcap := hr _ _ _ rfl
  have HO := Lib.hid (show ∀ n W, n ≤ l.length → Below w.heap.size w W → ∀ c', OwnMR W (.slice A n c') (l.take n) from fun n W hn hb c' => ownMR_take (h0.below hb) hn)
  have HC := Lib.hid hc
  clear hc h0 hr
  go_enter Tryz.func45, Tryz.ntmps45
  go_wp2
  go_loopw [5] (fun i wr => ∃ k : Nat, k ≤ l.length ∧ i = .int .i64 k ∧ Hid (∀ m ∈ l.take k, fitM cu m = true) ∧ Below w.heap.size w wr) (fun i _ => l.length - (intOf i).toNat)
  case atStart => exact ⟨0, Nat.zero_le _, rfl, Lib.hid (fun m hm => absurd hm (by simp)), Below.refl _ _⟩
  case round =>
    obtain ⟨k, hk, rfl, HP, hb⟩ := hrel
    have c0 : (0 : Int) ≤ (k : Int) := by omega
    have c1 : (k : Int) ≤ (c : Int) := by omega
    by_cases hlt : k < l.length
    · obtain ⟨x, hxk⟩ : ∃ x, l[k]? = some x := ⟨_, List.getElem?_eq_getElem hlt⟩
      obtain ⟨a, ux, rfl, haa, hc0, hc1, hc2, hox⟩ := HC.out k x hxk
      have hxl := hx x (List.mem_of_getElem? hxk)
      obtain ⟨A1, c1x, rfl⟩ := own_len hox
      have k0 := (cell_keep3' hb haa k).trans hc0
      have k1 := (cell_keep3 hb haa k 1).trans hc1
      have k2 := (cell_keep3 hb haa k 2).trans hc2
      by_cases he : x.1 = cu
      · have hne : (x.1.toList == cu.toList) = true := by rw [he]; exact beq_self_eq_true _
        have OX := Lib.hid (OwnM.below (⟨_, rfl, hox⟩ : OwnM (.agg #[.string x.1, .bool x.2.1, .slice A1 x.2.2.length c1x]) x w) hb)
        have HXK := Lib.hid hxk
        have HE := Lib.hid he
        clear hc0 hc1 hc2 hox hxk haa he
        go_wp2_with fail
        refine (implMoneyOk_any _ x _ hxl OX.out (HT.out.below hb)).mono ?_
        rintro e w1 ⟨rfl, b1⟩
        have bb1 := Below.next hb b1
        clear k0 k1 k2
        by_cases okx : okM x = true
        · have HP2 := Lib.hid (show ∀ m ∈ l.take (k + 1), fitM cu m = true from fun m hm => by
            rw [take_snocM HXK.out] at hm
            rcases List.mem_append.1 hm with hm | hm
            · exact HP.out m hm
            · rw [List.mem_singleton.1 hm]
              unfold fitM
              rw [okx, decide_eq_true HE.out]
              rfl)
          rw [okx]
          clear okx
          go_wp2
          exact ⟨⟨k + 1, by omega, by go_num, HP2, bb1⟩, by simp [intOf]; omega⟩
        · have okx' : okM x = false := by simpa using okx
          have HN := Lib.hid (show ∀ y, l[k]? = some y → ¬ fitM cu y = true from fun y hy => by
            rw [HXK.out] at hy
            cases hy
            unfold fitM
            rw [okx']
            simp)
          rw [okx']
          clear okx okx'
          go_wp2
          go_ret
          exact ⟨k, _, _, rfl, hk, HO.out k _ hk bb1 _, HP.out, HN.out, bb1⟩
      · have hne : (x.1.toList == cu.toList) = false := bytes_neC he
        have HN := Lib.hid (show ∀ y, l[k]? = some y → ¬ fitM cu y = true from fun y hy => by
          rw [hxk] at hy
          cases hy
          unfold fitM
          rw [decide_eq_false he]
          simp)
        clear hc0 hc1 hc2 hox hxk haa he k1 k2
        go_wp2
        go_ret
        exact ⟨k, _, _, rfl, hk, HO.out k _ hk hb _, HP.out, HN.out, hb⟩
    · obtain rfl : k = l.length := by omega
      have HN := Lib.hid (show ∀ y, l[l.length]? = some y → ¬ fitM cu y = true from fun y hy => by simp at hy)
      go_wp2
      go_ret
      exact ⟨_, _, _, rfl, hk, HO.out _ _ hk hb _, HP.out, HN.out, hb⟩
theorem signedInfoM : (Tryz.prog.info? 25).map (fun i => (i.zero, i.size, i.bytes)) = some (some (.agg #[.bool false, .slice none 0 0]), 2, 32) := by kernel_rfl
theorem two_new (w : World) (x y : Value) (t : TypeId) : ∀ (j : Nat) (u : Value), [x, y][j]? = some u → (w.alloc (.cells #[x, y] t)).cell? (Addr.add ⟨w.heap.size, 0, none⟩ j) = some u := by
  intro j u h
  match j, h with
  | 0, h =>
    rw [show (Addr.add ⟨w.heap.size, 0, none⟩ 0) = ⟨w.heap.size, 0, none⟩ from rfl, World.cell?_alloc_at _ _ _ _ rfl]
    simpa using h
  | 1, h =>
    rw [show (Addr.add ⟨w.heap.size, 0, none⟩ 1) = ⟨w.heap.size, 1, none⟩ from rfl, World.cell?_alloc_at _ _ _ _ rfl]
    simpa using h
theorem own_len2 {w : World} {base n size : Nat} {e : TypeId} {v : Value} {xs : List Value} (h : w.ownsRow base e size v n xs) : ∃ A c, v = .slice A n c := by
  rcases h.2 with ⟨rfl, rfl⟩ | ⟨g, cap, cur, rfl, _⟩
  · exact ⟨_, _, rfl⟩
  · exact ⟨_, _, rfl⟩
/-- the units so far: a row of the call's own, whose limbs are the amounts' -/
def UnitRel (l : List MI) (w : World) (v i : Value) (wr : World) : Prop :=
  ∃ (u : Value) (k : Nat) (e : List (Bool × Value)), u = v ∧ k ≤ l.length ∧ i = .int .i64 k ∧ e.length = k ∧ wr.ownsRow w.heap.size 25 2 u k (flatC e) ∧ Hid (∀ (j : Nat) (x : MI) (p : Bool × Value), l[j]? = some x → e[j]? = some p → p.1 = x.2.1 ∧ OwnI p.2 x.2.2 w) ∧ Below w.heap.size w wr
theorem unit_snoc {l : List MI} {e : List (Bool × Value)} {w : World} {x : MI} {u : Value} (hx : l[e.length]? = some x) (ou : OwnI u x.2.2 w)
    (h : ∀ (j : Nat) (x : MI) (p : Bool × Value), l[j]? = some x → e[j]? = some p → p.1 = x.2.1 ∧ OwnI p.2 x.2.2 w) :
    ∀ (j : Nat) (y : MI) (p : Bool × Value), l[j]? = some y → (e ++ [(x.2.1, u)])[j]? = some p → p.1 = y.2.1 ∧ OwnI p.2 y.2.2 w := by
  intro j y p hy hp
  by_cases hj : j < e.length
  · rw [List.getElem?_append_left hj] at hp
    exact h j y p hy hp
  · rw [List.getElem?_append_right (by omega)] at hp
    have hj0 : j - e.length = 0 := by
      have := (List.getElem?_eq_some_iff.1 hp).1
      simp at this
      omega
    rw [hj0] at hp
    obtain rfl : (x.2.1, u) = p := by simpa using hp
    obtain rfl : j = e.length := by omega
    rw [hx] at hy
    cases hy
    exact ⟨rfl, ou⟩
theorem unit_ownR {l : List MI} {e : List (Bool × Value)} {w wr : World} {v : Value} (he : e.length = l.length) (ho : wr.ownsRow w.heap.size 25 2 v l.length (flatC e)) (hb : Below w.heap.size w wr)
    (h : ∀ (j : Nat) (x : MI) (p : Bool × Value), l[j]? = some x → e[j]? = some p → p.1 = x.2.1 ∧ OwnI p.2 x.2.2 w) : OwnR wr v (l.map fun m => m.2) := by
  obtain ⟨hlen, h0 | ⟨g, cap, cur, rfl, hg, hh, hcap, hmx, hsz, htk⟩⟩ := ho
  · obtain ⟨rfl, hl0⟩ := h0
    refine ⟨none, 0, by rw [List.length_map, hl0], fun j x hj => ?_⟩
    have := (List.getElem?_eq_some_iff.1 hj).1
    rw [List.length_map] at this
    omega
  · refine ⟨_, _, by rw [List.length_map], fun j x hj => ?_⟩
    rw [List.getElem?_map] at hj
    obtain ⟨m, hm, rfl⟩ := Option.map_eq_some_iff.1 hj
    have hjl := (List.getElem?_eq_some_iff.1 hm).1
    have hp : e[j]? = some e[j] := List.getElem?_eq_getElem (by omega)
    obtain ⟨h1, h2⟩ := h j m _ hm hp
    have hf := flatC_get hp
    have hgl : g < wr.heap.size := (Array.getElem?_eq_some_iff.1 hh).1
    have hcell : ∀ i u, (flatC e)[i]? = some u → i < l.length * 2 → wr.cell? ⟨g, i, none⟩ = some u := fun i u hi hil => by
      rw [← htk, List.getElem?_take_of_lt hil] at hi
      rw [Lib.cell_of_heap hh]
      simpa using hi
    refine ⟨⟨g, 0, none⟩, (e[j]'(by omega)).2, rfl, hgl, ?_, ?_, own_below h2 hb⟩
    · rw [add_own]
      have := hcell (j * 2) _ hf.1 (by omega)
      rw [h1] at this
      exact this
    · rw [add_own]
      exact hcell (j * 2 + 1) _ hf.2 (by omega)
theorem newS_to {x y : SI} (e : x = y) {w w' : World} {n : Ending} (h : NewS x w n w') : NewV (fun v => OwnS v y) w n w' := e ▸ h.newV
set_option maxHeartbeats 4000000 in
set_option maxRecDepth 100000 in
theorem implMoneySum_any (cu : ByteArray) (v : Value) (l : List MI) (w : World) (hl : l.length ≤ 1099511627776) (hx : ∀ x ∈ l, x.2.2.length ≤ 1048576) (h : OwnMR w v l) (hr : Roomy v) (ht : CurTab w) :
    Calls Tryz.prog 16 #[.string cu, v] w (PostMb (sumM cu l).1 (sumM cu l).2 w) := by
  obtain ⟨i0, hi0, hz0, hz1, hz2⟩ := info_parts signedInfoM
  have HT := Lib.hid ht
  clear ht
  have bb0 : Below w.heap.size w (w.alloc (.cells #[.string ⟨#[]⟩, .bool false, .slice none 0 0] 27)) := below_al (Below.refl _ _) _
  have ko := box_new w #[.string ⟨#[]⟩, .bool false, .slice none 0 0] 27
  have HKO := Lib.hid (ko.lt w.heap.size (by simp))
  have hv := h
  obtain ⟨A0, c0, rfl, _⟩ := hv
  have HOW := Lib.hid (h.below bb0)
  have HR := Lib.hid hr
  clear h hr
  go_enter Tryz.func16, Tryz.ntmps16
  go_wp2_with fail
  refine (amountsIn_any cu _ l _ (by omega) hx HOW.out HR.out (HT.out.below bb0)).mono ?_
  rintro e w1 ⟨n, A, c, rfl, hn, hor, hfit, hbad, b1⟩
  have bb1 := Below.next bb0 b1
  replace ko := ko.below b1
  by_cases hlt : n < l.length
  · obtain ⟨x, hxn⟩ : ∃ x, l[n]? = some x := ⟨_, List.getElem?_eq_getElem hlt⟩
    have HV := Lib.hid (sumM_bad hxn (hbad x hxn))
    clear hor hfit hbad hxn
    have cz0 := ko.here.cell 0 _ rfl
    have cz1 := ko.here.cell 1 _ rfl
    have cz2 := ko.here.cell 2 _ rfl
    have fz0 := Lib.frozen_of_heap ko.here 0
    have fz1 := Lib.frozen_of_heap ko.here 1
    have fz2 := Lib.frozen_of_heap ko.here 2
    clear ko
    go_wp2
    refine bodyPost_ret (v := .tuple #[.agg #[.string ⟨#[]⟩, .bool false, .slice none 0 0], .bool false]) (by simp [results, Tryz.results16, go_sem, cz0, cz1, cz2]) rfl ?_
    rw [HV.out]
    first | exact newMb_zero _ bb1 | exact newMb_zero _ (below_set3 bb1 (Nat.le_refl _))
  · obtain rfl : n = l.length := by omega
    rw [List.take_length] at hor hfit
    have HFIT := Lib.hid hfit
    obtain ⟨A', c', e1, hc⟩ := hor
    cases e1
    have HC := Lib.hid hc
    clear hfit hbad hc hn hlt
    have HB1 := Lib.hid bb1
    have HKO1 := Lib.hid ko
    clear bb1 ko bb0 b1
    go_wp2
    go_loopw [7, 21] (fun uv i wr => UnitRel l w1 uv i wr) (fun _ i _ => l.length - (intOf i).toNat)
    case atStart => exact ⟨_, 0, [], rfl, Nat.zero_le _, rfl, rfl, World.ownsRow_nil _ _ _ _, Lib.hid (fun j x p _ hp => by simp at hp), Below.refl _ _⟩
    case round =>
      obtain ⟨uv, k, e, rfl, hk, rfl, hek, ho, HU, hb⟩ := hrel
      by_cases hlt : k < l.length
      · obtain ⟨x, hxk⟩ : ∃ x, l[k]? = some x := ⟨_, List.getElem?_eq_getElem hlt⟩
        obtain ⟨a, ux, rfl, haa, hc0, hc1, hc2, hox⟩ := HC.out k x hxk
        obtain ⟨A1, c1x, rfl⟩ := own_len hox
        have k0 := (cell_keep3' hb haa k).trans hc0
        have k1 := (cell_keep3 hb haa k 1).trans hc1
        have k2 := (cell_keep3 hb haa k 2).trans hc2
        have HUN := Lib.hid (unit_snoc (by rw [hek]; exact hxk) hox HU.out)
        have hxl := (hx x (List.mem_of_getElem? hxk))
        clear hc0 hc1 hc2 hox hxk haa HU
        have hnew : ∀ (j : Nat) (u : Value), [Value.bool x.2.1, Value.slice A1 x.2.2.length c1x][j]? = some u → ((wr.alloc (.cells #[.string x.1, .bool x.2.1, .slice A1 x.2.2.length c1x] 27)).alloc (.cells #[.bool x.2.1, .slice A1 x.2.2.length c1x] 25)).cell? (Addr.add ⟨wr.heap.size + 1, 0, none⟩ j) = some u := by
          have h := two_new (wr.alloc (.cells #[.string x.1, .bool x.2.1, .slice A1 x.2.2.length c1x] 27)) (.bool x.2.1) (.slice A1 x.2.2.length c1x) 25
          rw [show (wr.alloc (.cells #[.string x.1, .bool x.2.1, .slice A1 x.2.2.length c1x] 27)).heap.size = wr.heap.size + 1 by simp] at h
          exact h
        have hzb := hb.size
        have HB := Lib.hid (show Below w1.heap.size w1 ((wr.alloc (.cells #[.string x.1, .bool x.2.1, .slice A1 x.2.2.length c1x] 27)).alloc (.cells #[.bool x.2.1, .slice A1 x.2.2.length c1x] 25)) from below_al (below_al hb _) _)
        have HLT := Lib.hid (show ∀ b, uv.ownBlock = some b → w1.heap.size ≤ b from fun b hb => (own_lt ho hb).1)
        go_wp2_with (at_builtin; refine wpList_append_own _ rfl _ _ 81 rfl w1.heap.size 25 i0 (.agg #[.bool false, .slice none 0 0]) 2 32 Tryz.underlying81 hi0 hz0 hz1 hz2 rfl (by decide) uv k (flatC e) rfl (own_alloc (own_alloc ho _) _) ⟨wr.heap.size + 1, 0, none⟩ 1 1 [.bool x.2.1, .slice A1 x.2.2.length c1x] rfl rfl hnew ?c2 ?c3 ?c4 ?c5 ?_)
        case c2 => intro u hu; simp at hu; rcases hu with rfl | rfl <;> rfl
        case c3 => unfold maxLen; omega
        case c4 => omega
        case c5 => simp; omega
        intro v2 w2 hown2 hg2 _
        have hb2 : Below w1.heap.size w1 w2 := HB.out.grown hg2 HB.out.size HLT.out
        have hrow2 : w2.ownsRow w1.heap.size 25 2 v2 (k + 1) (flatC (e ++ [(x.2.1, .slice A1 x.2.2.length c1x)])) := by rw [flatC_append]; exact hown2
        have HREL := Lib.hid (show UnitRel l w1 v2 (.int .i64 ((k : Int) + 1)) w2 from ⟨v2, k + 1, _, rfl, by omega, by go_num, by rw [List.length_append, hek]; rfl, hrow2, Lib.hid HUN.out, hb2⟩)
        clear hown2 hg2 hb2 hrow2 HB HLT HUN ho k0 k1 k2 hnew
        go_wp2
        exact ⟨HREL.out, by simp [intOf]; omega⟩
      · obtain rfl : k = l.length := by omega
        obtain ⟨Av, cv, rfl⟩ := own_len2 ho
        have HOR := Lib.hid (unit_ownR hek ho hb HU.out)
        have HV := Lib.hid (show sumM cu l = makeM cu (sumS (l.map fun m => m.2)) by
          unfold sumM
          rw [if_pos (List.all_eq_true.2 HFIT.out), sum_units fun m hm => by
            have := HFIT.out m hm
            unfold fitM at this
            rw [Bool.and_eq_true] at this
            exact this.1])
        have hln : (l.map fun m => m.2).length ≤ 140737488355328 := by rw [List.length_map]; omega
        have hlx : ∀ x ∈ (l.map fun m => m.2), x.2.length ≤ 1048576 := fun x hm => by
          obtain ⟨m, hm2, rfl⟩ := List.mem_map.1 hm
          exact hx m hm2
        have hsz : (sumS (l.map fun m => m.2)).2.length ≤ 1048576 := by
          unfold sumS
          split
          · have := foldS_len (l.map fun m => m.2)
            unfold foldS at this
            omega
          · decide
        have HB3 := Lib.hid (Below.next HB1.out hb)
        have ko3 := HKO1.out.below hb
        have hzr := HKO1.out.lt w.heap.size (by simp)
        have hzr2 := hb.size
        clear ho HU hb hek HC
        obtain ⟨sm, hsm⟩ : ∃ sm, sumS (l.map fun m => m.2) = sm := ⟨_, rfl⟩
        have ESM := Lib.hid hsm
        rw [hsm] at HV hsz
        clear hsm
        obtain ⟨Q, hQ⟩ : ∃ Q, makeM cu sm = Q := ⟨_, rfl⟩
        have EV := Lib.hid hQ
        rw [hQ] at HV
        clear hQ
        go_wp2_with fail
        refine ((implIntSum_any _ (l.map fun m => m.2) _ hln hlx HOR.out).mono fun _ _ h => newS_to ESM.out h).mono ?_
        rintro e2 w3 ⟨us, Ss, rfl, os, ls, b3⟩
        obtain ⟨As, cs, rfl⟩ := ownS_form os.here
        have HB4 := Lib.hid (Below.next HB3.out b3)
        replace ko3 := ko3.below b3
        have hz1 := HB3.out.size
        go_wp2_with fail
        refine ((validMoney_any cu _ sm _ _ hsz os (HT.out.below HB4.out)).mono fun _ _ h => keptM_eq EV.out h).mono ?_
        rintro e3 w4 ⟨uf, Sf, rfl, of, sf, b4⟩
        obtain ⟨Af, cf, rfl⟩ := ownM_form of.here
        have HB5 := Lib.hid (Below.next HB4.out b4)
        replace ko3 := ko3.below b4
        have HW := Lib.hid (newMb_at (r := w.heap.size) (b := Q.2) (B := wr.heap.size) of (fun i hi => ⟨(ls i (sf i hi)).1, of.lt i hi⟩) (by have := HKO.out; omega) (Nat.le_refl _) HB5.out)
        have cz0 := ko3.here.cell 0 _ rfl
        have cz1 := ko3.here.cell 1 _ rfl
        have cz2 := ko3.here.cell 2 _ rfl
        have fz0 := Lib.frozen_of_heap ko3.here 0
        have fz1 := Lib.frozen_of_heap ko3.here 1
        have fz2 := Lib.frozen_of_heap ko3.here 2
        clear of os ko3 ls b3 b4 hln hlx HOR
        go_wp2
        refine bodyPost_ret (v := .tuple #[.agg #[.string _, .bool _, .slice Af _ cf], .bool _]) (by simp [results, Tryz.results16, go_sem, cz0, cz1, cz2]; exact ⟨⟨rfl, rfl, rfl⟩, rfl⟩) rfl ?_
        rw [HV.out]
        exact HW.out
end Go.Proofs.YtcenmdiblbooeaaGreatDoor

namespace Go.Proofs.YtcenmdiblbooeaaGreatDoor
open Go.RowKit

/-- two amounts in one literal -/
theorem ownMR_two {g : Nat} {a b : MI} {ua ub : Value} {T : TypeId} {w : World} (hb : BoxAt g #[.string a.1, .bool a.2.1, ua, .string b.1, .bool b.2.1, ub] T w) (oa : OwnI ua a.2.2 w) (ob : OwnI ub b.2.2 w) : OwnMR w (.slice (some ⟨g, 0, none⟩) 2 2) [a, b] := by
  have hg : g < w.heap.size := (Array.getElem?_eq_some_iff.1 hb).1
  refine ⟨_, _, rfl, fun j x hj => ?_⟩
  match j, hj with
  | 0, hj =>
    obtain rfl : a = x := by simpa using hj
    exact ⟨⟨g, 0, none⟩, ua, rfl, hg, by rw [add_ownM]; exact hb.cell 0 _ rfl, by rw [add_ownM]; exact hb.cell 1 _ rfl, by rw [add_ownM]; exact hb.cell 2 _ rfl, oa⟩
  | 1, hj =>
    obtain rfl : b = x := by simpa using hj
    exact ⟨⟨g, 0, none⟩, ub, rfl, hg, by rw [add_ownM]; exact hb.cell 3 _ rfl, by rw [add_ownM]; exact hb.cell 4 _ rfl, by rw [add_ownM]; exact hb.cell 5 _ rfl, ob⟩
theorem two_len {a b : MI} (ha : a.2.2.length ≤ 1048576) (hb : b.2.2.length ≤ 1048576) : ∀ x ∈ [a, b], x.2.2.length ≤ 1048576 := fun x hx => by
  simp at hx
  rcases hx with rfl | rfl
  · exact ha
  · exact hb
set_option maxHeartbeats 4000000 in
set_option maxRecDepth 100000 in
theorem implMoneyAdd_any (va vb : Value) (a b : MI) (w : World) (hla : a.2.2.length ≤ 1048576) (hlb : b.2.2.length ≤ 1048576) (ha : OwnM va a w) (hb : OwnM vb b w) (ht : CurTab w) :
    Calls Tryz.prog 9 #[va, vb] w (PostMb (addM a b).1 (addM a b).2 w) := by
  have Ha := Lib.hid ha
  obtain ⟨Aa, ca, rfl⟩ := ownM_form ha
  have OMa := Lib.hid (show ∀ W, Below w.heap.size w W → OwnM (.agg #[.string a.1, .bool a.2.1, .slice Aa a.2.2.length ca]) a W from fun W hb => OwnM.below Ha.out hb)
  have OIa := Lib.hid (show ∀ W, Below w.heap.size w W → OwnI (.slice Aa a.2.2.length ca) a.2.2 W from fun W hb => ownM_open (OMa.out W hb))
  have OSa := Lib.hid (show ∀ W, Below w.heap.size w W → OwnS (.agg #[.bool a.2.1, .slice Aa a.2.2.length ca]) a.2 W from fun W hb => OwnS.mk (OIa.out W hb))
  clear ha
  have Hb := Lib.hid hb
  obtain ⟨Ab, cb, rfl⟩ := ownM_form hb
  have OMb := Lib.hid (show ∀ W, Below w.heap.size w W → OwnM (.agg #[.string b.1, .bool b.2.1, .slice Ab b.2.2.length cb]) b W from fun W hb => OwnM.below Hb.out hb)
  have OIb := Lib.hid (show ∀ W, Below w.heap.size w W → OwnI (.slice Ab b.2.2.length cb) b.2.2 W from fun W hb => ownM_open (OMb.out W hb))
  have OSb := Lib.hid (show ∀ W, Below w.heap.size w W → OwnS (.agg #[.bool b.2.1, .slice Ab b.2.2.length cb]) b.2 W from fun W hb => OwnS.mk (OIb.out W hb))
  clear hb
  have HT := Lib.hid ht
  clear ht
  have bb0 : Below w.heap.size w (((w.alloc (.cells #[.string a.1, .bool a.2.1, .slice Aa a.2.2.length ca] 27)).alloc (.cells #[.string b.1, .bool b.2.1, .slice Ab b.2.2.length cb] 27)).alloc (.cells #[.string ⟨#[]⟩, .bool false, .slice none 0 0] 27)) := below_al (below_al (below_al (Below.refl _ _) _) _) _
  have ka := (box_new w #[.string a.1, .bool a.2.1, .slice Aa a.2.2.length ca] 27).below (below_al (below_al (Below.refl _ _) (.cells #[.string b.1, .bool b.2.1, .slice Ab b.2.2.length cb] 27)) (.cells #[.string ⟨#[]⟩, .bool false, .slice none 0 0] 27))
  have kb := (box_new (w.alloc (.cells #[.string a.1, .bool a.2.1, .slice Aa a.2.2.length ca] 27)) #[.string b.1, .bool b.2.1, .slice Ab b.2.2.length cb] 27).below (below_al (Below.refl _ _) (.cells #[.string ⟨#[]⟩, .bool false, .slice none 0 0] 27))
  rw [show (w.alloc (.cells #[.string a.1, .bool a.2.1, .slice Aa a.2.2.length ca] 27)).heap.size = w.heap.size + 1 by simp] at kb
  have ko := (box_new ((w.alloc (.cells #[.string a.1, .bool a.2.1, .slice Aa a.2.2.length ca] 27)).alloc (.cells #[.string b.1, .bool b.2.1, .slice Ab b.2.2.length cb] 27)) #[.string ⟨#[]⟩, .bool false, .slice none 0 0] 27)
  rw [show ((w.alloc (.cells #[.string a.1, .bool a.2.1, .slice Aa a.2.2.length ca] 27)).alloc (.cells #[.string b.1, .bool b.2.1, .slice Ab b.2.2.length cb] 27)).heap.size = w.heap.size + 1 + 1 by simp] at ko
  have HKO := Lib.hid (ko.lt (w.heap.size + 1 + 1) (by simp))
  have EP := sum_two a b
  obtain ⟨P, hP⟩ : ∃ P, addM a b = P := ⟨_, rfl⟩
  rw [hP] at EP ⊢
  clear hP
  have HEP := Lib.hid EP
  clear EP
  have HLE := Lib.hid (two_len hla hlb)
  have kl := box_new (((w.alloc (.cells #[.string a.1, .bool a.2.1, .slice Aa a.2.2.length ca] 27)).alloc (.cells #[.string b.1, .bool b.2.1, .slice Ab b.2.2.length cb] 27)).alloc (.cells #[.string ⟨#[]⟩, .bool false, .slice none 0 0] 27)) #[.string a.1, .bool a.2.1, .slice Aa a.2.2.length ca, .string b.1, .bool b.2.1, .slice Ab b.2.2.length cb] 27
  have hz3 : (((w.alloc (.cells #[.string a.1, .bool a.2.1, .slice Aa a.2.2.length ca] 27)).alloc (.cells #[.string b.1, .bool b.2.1, .slice Ab b.2.2.length cb] 27)).alloc (.cells #[.string ⟨#[]⟩, .bool false, .slice none 0 0] 27)).heap.size = w.heap.size + 1 + 1 + 1 := by simp
  have all := below_al (Below.refl (((w.alloc (.cells #[.string a.1, .bool a.2.1, .slice Aa a.2.2.length ca] 27)).alloc (.cells #[.string b.1, .bool b.2.1, .slice Ab b.2.2.length cb] 27)).alloc (.cells #[.string ⟨#[]⟩, .bool false, .slice none 0 0] 27)).heap.size (((w.alloc (.cells #[.string a.1, .bool a.2.1, .slice Aa a.2.2.length ca] 27)).alloc (.cells #[.string b.1, .bool b.2.1, .slice Ab b.2.2.length cb] 27)).alloc (.cells #[.string ⟨#[]⟩, .bool false, .slice none 0 0] 27))) (.cells #[.string a.1, .bool a.2.1, .slice Aa a.2.2.length ca, .string b.1, .bool b.2.1, .slice Ab b.2.2.length cb] 27)
  have bbl := Below.next bb0 all
  rw [hz3] at kl
  have hzl : ((((w.alloc (.cells #[.string a.1, .bool a.2.1, .slice Aa a.2.2.length ca] 27)).alloc (.cells #[.string b.1, .bool b.2.1, .slice Ab b.2.2.length cb] 27)).alloc (.cells #[.string ⟨#[]⟩, .bool false, .slice none 0 0] 27)).alloc (.cells #[.string a.1, .bool a.2.1, .slice Aa a.2.2.length ca, .string b.1, .bool b.2.1, .slice Ab b.2.2.length cb] 27)).heap.size = w.heap.size + 1 + 1 + 1 + 1 := by simp
  have HOR := Lib.hid (ownMR_two kl.here (OIa.out _ bbl) (OIb.out _ bbl))
  have ka2 := ka.below all
  have kb2 := kb.below all
  have ko2 := ko.below all
  have ka_c0 := ka.here.cell 0 _ rfl
  have ka_c1 := ka.here.cell 1 _ rfl
  have ka_c2 := ka.here.cell 2 _ rfl
  have kb_c0 := kb.here.cell 0 _ rfl
  have kb_c1 := kb.here.cell 1 _ rfl
  have kb_c2 := kb.here.cell 2 _ rfl
  go_enter Tryz.func9, Tryz.ntmps9
  go_wp2_with fail
  clear ka_c0 ka_c1 ka_c2 kb_c0 kb_c1 kb_c2
  clear ka kb ko ka2 kb2 kl all
  refine ((implMoneySum_any a.1 _ [a, b] _ (show 2 ≤ 1099511627776 by omega) HLE.out HOR.out (fun _ _ _ h => by cases h; exact Nat.le_refl _) (HT.out.below bbl)).mono fun _ _ h => postMb_eq HEP.out h).mono ?_
  rintro e w1 ⟨uf, Sf, rfl, of, lf, b1⟩
  obtain ⟨Af, cf, rfl⟩ := ownM_form of.here
  have bb1 := Below.next bbl b1
  have ko := ko2.below b1
  have HW := Lib.hid (newMb_at (r := w.heap.size + 1 + 1) (b := P.2) of lf (by rw [hzl]; omega) (by omega) bb1)
  have cz0 := ko.here.cell 0 _ rfl
  have fz0 := Lib.frozen_of_heap ko.here 0
  have cz1 := ko.here.cell 1 _ rfl
  have fz1 := Lib.frozen_of_heap ko.here 1
  have cz2 := ko.here.cell 2 _ rfl
  have fz2 := Lib.frozen_of_heap ko.here 2
  clear of ko ko2 lf
  go_wp2
  refine bodyPost_ret (v := .tuple #[.agg #[.string _, .bool _, .slice Af _ cf], .bool _]) (by simp [results, Tryz.results9, go_sem, cz0, cz1, cz2]; exact ⟨⟨rfl, rfl, rfl⟩, rfl⟩) rfl ?_
  exact HW.out
set_option maxHeartbeats 4000000 in
set_option maxRecDepth 100000 in
theorem implMoneySub_any (va vb : Value) (a b : MI) (w : World) (hla : a.2.2.length ≤ 1048576) (hlb : b.2.2.length ≤ 1048576) (ha : OwnM va a w) (hb : OwnM vb b w) (ht : CurTab w) :
    Calls Tryz.prog 10 #[va, vb] w (PostMb (subM a b).1 (subM a b).2 w) := by
  have Ha := Lib.hid ha
  obtain ⟨Aa, ca, rfl⟩ := ownM_form ha
  have OMa := Lib.hid (show ∀ W, Below w.heap.size w W → OwnM (.agg #[.string a.1, .bool a.2.1, .slice Aa a.2.2.length ca]) a W from fun W hb => OwnM.below Ha.out hb)
  have OIa := Lib.hid (show ∀ W, Below w.heap.size w W → OwnI (.slice Aa a.2.2.length ca) a.2.2 W from fun W hb => ownM_open (OMa.out W hb))
  have OSa := Lib.hid (show ∀ W, Below w.heap.size w W → OwnS (.agg #[.bool a.2.1, .slice Aa a.2.2.length ca]) a.2 W from fun W hb => OwnS.mk (OIa.out W hb))
  clear ha
  have Hb := Lib.hid hb
  obtain ⟨Ab, cb, rfl⟩ := ownM_form hb
  have OMb := Lib.hid (show ∀ W, Below w.heap.size w W → OwnM (.agg #[.string b.1, .bool b.2.1, .slice Ab b.2.2.length cb]) b W from fun W hb => OwnM.below Hb.out hb)
  have OIb := Lib.hid (show ∀ W, Below w.heap.size w W → OwnI (.slice Ab b.2.2.length cb) b.2.2 W from fun W hb => ownM_open (OMb.out W hb))
  have OSb := Lib.hid (show ∀ W, Below w.heap.size w W → OwnS (.agg #[.bool b.2.1, .slice Ab b.2.2.length cb]) b.2 W from fun W hb => OwnS.mk (OIb.out W hb))
  clear hb
  have HT := Lib.hid ht
  clear ht
  have bb0 : Below w.heap.size w (((w.alloc (.cells #[.string a.1, .bool a.2.1, .slice Aa a.2.2.length ca] 27)).alloc (.cells #[.string b.1, .bool b.2.1, .slice Ab b.2.2.length cb] 27)).alloc (.cells #[.string ⟨#[]⟩, .bool false, .slice none 0 0] 27)) := below_al (below_al (below_al (Below.refl _ _) _) _) _
  have ka := (box_new w #[.string a.1, .bool a.2.1, .slice Aa a.2.2.length ca] 27).below (below_al (below_al (Below.refl _ _) (.cells #[.string b.1, .bool b.2.1, .slice Ab b.2.2.length cb] 27)) (.cells #[.string ⟨#[]⟩, .bool false, .slice none 0 0] 27))
  have kb := (box_new (w.alloc (.cells #[.string a.1, .bool a.2.1, .slice Aa a.2.2.length ca] 27)) #[.string b.1, .bool b.2.1, .slice Ab b.2.2.length cb] 27).below (below_al (Below.refl _ _) (.cells #[.string ⟨#[]⟩, .bool false, .slice none 0 0] 27))
  rw [show (w.alloc (.cells #[.string a.1, .bool a.2.1, .slice Aa a.2.2.length ca] 27)).heap.size = w.heap.size + 1 by simp] at kb
  have ko := (box_new ((w.alloc (.cells #[.string a.1, .bool a.2.1, .slice Aa a.2.2.length ca] 27)).alloc (.cells #[.string b.1, .bool b.2.1, .slice Ab b.2.2.length cb] 27)) #[.string ⟨#[]⟩, .bool false, .slice none 0 0] 27)
  rw [show ((w.alloc (.cells #[.string a.1, .bool a.2.1, .slice Aa a.2.2.length ca] 27)).alloc (.cells #[.string b.1, .bool b.2.1, .slice Ab b.2.2.length cb] 27)).heap.size = w.heap.size + 1 + 1 by simp] at ko
  have HKO := Lib.hid (ko.lt (w.heap.size + 1 + 1) (by simp))
  have hlX := negM_len hlb
  have EP := sub_neg a b
  obtain ⟨⟨X, nb⟩, hX⟩ : ∃ X, negM b = X := ⟨_, rfl⟩
  have EX := Lib.hid hX
  rw [hX] at hlX EP
  clear hX
  dsimp only at hlX EP
  obtain ⟨P, hP⟩ : ∃ P, subM a b = P := ⟨_, rfl⟩
  rw [hP] at EP ⊢
  clear hP
  have HEP := Lib.hid EP
  clear EP
  go_enter Tryz.func10, Tryz.ntmps10
  have kb_c0 := kb.here.cell 0 _ rfl
  have kb_c1 := kb.here.cell 1 _ rfl
  have kb_c2 := kb.here.cell 2 _ rfl
  go_wp2_with fail
  clear kb_c0 kb_c1 kb_c2
  refine ((implMoneyNeg_any _ b _ hlb (OMb.out _ bb0) (HT.out.below bb0)).mono fun _ _ h => postMb_is EX.out h).mono ?_
  rintro e w1 ⟨un, Sn, rfl, on, ln, b1⟩
  obtain ⟨An, cn, rfl⟩ := ownM_form on.here
  have bb1 := Below.next bb0 b1
  replace ka := ka.below b1
  replace kb := kb.below b1
  replace ko := ko.below b1
  have kn := box_new (w1) #[.string X.1, .bool X.2.1, .slice An X.2.2.length cn] 27
  have aln := below_al (Below.refl (w1).heap.size (w1)) (.cells #[.string X.1, .bool X.2.1, .slice An X.2.2.length cn] 27)
  have bbn := Below.next bb1 aln
  replace ka := ka.below aln
  replace kb := kb.below aln
  replace ko := ko.below aln
  replace on := on.below aln
  have ka_c0 := ka.here.cell 0 _ rfl
  have ka_c1 := ka.here.cell 1 _ rfl
  have ka_c2 := ka.here.cell 2 _ rfl
  have kn_c0 := kn.here.cell 0 _ rfl
  have kn_c1 := kn.here.cell 1 _ rfl
  have kn_c2 := kn.here.cell 2 _ rfl
  go_wp2_with fail
  clear ka_c0 ka_c1 ka_c2 kn_c0 kn_c1 kn_c2
  refine ((implMoneyAdd_any _ _ a X _ hla hlX (OMa.out _ bbn) on.here (HT.out.below bbn)).mono fun _ _ h => postMb_eq HEP.out h).mono ?_
  rintro e w2 ⟨uf, Sf, rfl, of, lf, b2⟩
  obtain ⟨Af, cf, rfl⟩ := ownM_form of.here
  have bb2 := Below.next bbn b2
  replace ka := ka.below b2
  replace kb := kb.below b2
  replace ko := ko.below b2
  replace on := on.below b2
  replace kn := kn.below b2
  have HW := Lib.hid (newMb_at (r := w.heap.size + 1 + 1) (b := P.2) of lf (by have := HKO.out; have := b1.size; simp at *; omega) (by omega) bb2)
  have cz0 := ko.here.cell 0 _ rfl
  have fz0 := Lib.frozen_of_heap ko.here 0
  have cz1 := ko.here.cell 1 _ rfl
  have fz1 := Lib.frozen_of_heap ko.here 1
  have cz2 := ko.here.cell 2 _ rfl
  have fz2 := Lib.frozen_of_heap ko.here 2
  clear of ko on kn ka kb lf ln
  go_wp2
  refine bodyPost_ret (v := .tuple #[.agg #[.string _, .bool _, .slice Af _ cf], .bool _]) (by simp [results, Tryz.results10, go_sem, cz0, cz1, cz2]; exact ⟨⟨rfl, rfl, rfl⟩, rfl⟩) rfl ?_
  exact HW.out
end Go.Proofs.YtcenmdiblbooeaaGreatDoor
