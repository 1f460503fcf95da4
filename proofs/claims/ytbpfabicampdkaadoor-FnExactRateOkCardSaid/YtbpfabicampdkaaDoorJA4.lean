/-
  Slices of rates: what laws.szRateS, toRateS and eqRateS return.
  Tables of rates of the call's own, in whatever order their blocks lie; what a mark leaves in them; what laws.markRateS and heldRateS return.
  Values of type impl.Rates: what laws.szRates, eqRates and toRates return.
  Arguments of types laws.Rate and laws.Rates, opened.
  The law FnExactRatesOk of chapter 11, walked: it returns true wherever both packages answer alike.
  Chapter 11 of package spec: where the rate of a pair stands (l10At), RatesOk.
  Pairs of a list of rates, counted: none stands twice where each stands at its own place.
  A map that counts pairs: one step of 'counts[k]++', whatever its order; what the map holds, in plain words.
-/
import Derived.Deep.RegionHeld3
import Derived.Deep.DeepCutAuto
import Derived.Deep.Strs
import Derived.Maps.RangeWalk
import Derived.WideKeyEntry
import Derived.DeepKeys4
import Derived.Test.YtbpfabicampdkaaDoorJA3
namespace Go.Proofs.YtbpfabicampdkaaDoor
open Go.RowKit

/-- a slice that reads as these, an element 5 cells -/
def RdEL (w : World) (v : Value) (l : List EI) : Prop :=
  ∃ A c, v = .slice A l.length c ∧ ∀ (j : Nat) x, l[j]? = some x → ∃ a u, A = some a ∧ a.block < w.heap.size ∧ w.cell? (a.add (j * 5)) = some (.string x.1) ∧ w.cell? ⟨(a.add (j * 5)).block, (a.add (j * 5)).off + 1, none⟩ = some (.string x.2.1) ∧ w.cell? ⟨(a.add (j * 5)).block, (a.add (j * 5)).off + 2, none⟩ = some (.bool x.2.2.1.1) ∧ w.cell? ⟨(a.add (j * 5)).block, (a.add (j * 5)).off + 3, none⟩ = some u ∧ w.cell? ⟨(a.add (j * 5)).block, (a.add (j * 5)).off + 4, none⟩ = some (.int .i64 x.2.2.2) ∧ Row w 0 w.heap.size u (intsV x.2.2.1.2)
theorem cell_keep5 {w w' : World} {a : Addr} (hb : Below w.heap.size w w') (h : a.block < w.heap.size) (j i : Nat) : w'.cell? ⟨(a.add (j * 5)).block, (a.add (j * 5)).off + i, none⟩ = w.cell? ⟨(a.add (j * 5)).block, (a.add (j * 5)).off + i, none⟩ :=
  hb.cell (by show (a.add (j * 5)).block < _; rw [block_add]; exact h)
theorem cell_keep5' {w w' : World} {a : Addr} (hb : Below w.heap.size w w') (h : a.block < w.heap.size) (j : Nat) : w'.cell? (a.add (j * 5)) = w.cell? (a.add (j * 5)) := hb.cell (by rw [block_add]; exact h)
theorem RdEL.below {w w' : World} {v : Value} {l : List EI} (h : RdEL w v l) (hb : Below w.heap.size w w') : RdEL w' v l := by
  obtain ⟨A, c, rfl, h⟩ := h
  refine ⟨A, c, rfl, fun j x hj => ?_⟩
  obtain ⟨a, u, rfl, h1, h2, h3, h4, h5, h6, hr⟩ := h j x hj
  exact ⟨a, u, rfl, Nat.lt_of_lt_of_le h1 hb.size, (cell_keep5' hb h1 j).trans h2, (cell_keep5 hb h1 j 1).trans h3, (cell_keep5 hb h1 j 2).trans h4, (cell_keep5 hb h1 j 3).trans h5, (cell_keep5 hb h1 j 4).trans h6, (hr.below hb (Nat.le_refl _)).wide (Nat.le_refl _) hb.size⟩
/-- how much there is to read -/
def szEL : List EI → Int
  | [] => 0
  | x :: l => szE x + szEL l
theorem szEL_nonneg (l : List EI) : 0 ≤ szEL l := by
  induction l with
  | nil => exact Int.le_refl _
  | cons x l ih => show 0 ≤ szE x + szEL l; have := szE_nonneg x; omega
theorem szEL_append (l r : List EI) : szEL (l ++ r) = szEL l + szEL r := by
  induction l with
  | nil => show szEL r = 0 + szEL r; omega
  | cons x l ih => show szE x + szEL (l ++ r) = szE x + szEL l + szEL r; rw [ih]; omega
theorem szEL_take {l : List EI} {j : Nat} {x : EI} (h : l[j]? = some x) : szEL (l.take (j + 1)) = szEL (l.take j) + szE x := by
  have hj := (List.getElem?_eq_some_iff.1 h).1
  have e : l[j] = x := (List.getElem?_eq_some_iff.1 h).2
  rw [List.take_succ_eq_append_getElem hj, szEL_append, e]
  show _ + (szE x + 0) = _
  omega
theorem szEL_take_le (l : List EI) (j : Nat) : szEL (l.take j) ≤ szEL l := by
  have := szEL_append (l.take j) (l.drop j)
  rw [List.take_append_drop] at this
  have := szEL_nonneg (l.drop j)
  omega
theorem szEL_mem {l : List EI} {x : EI} (h : x ∈ l) : szE x ≤ szEL l := by
  induction l with
  | nil => exact absurd h List.not_mem_nil
  | cons y l ih =>
    show szE x ≤ szE y + szEL l
    have h1 := szE_nonneg y
    have h2 := szEL_nonneg l
    rcases List.mem_cons.1 h with rfl | h
    · omega
    · have := ih h
      omega
set_option maxHeartbeats 2000000 in
set_option maxRecDepth 100000 in
theorem szRateS_any (v : Value) (l : List EI) (left : Int) (w : World) (hl : l.length ≤ 9223372036854775807) (hx : ∀ x ∈ l, capE x) (h0 : 0 ≤ left) (h1 : left ≤ 1048576) (h : RdEL w v l) :
    Calls Tryd.prog 33 #[v, .int .i64 left] w fun e w' => e = .returned (.int .i64 (leftI left (l.length + szEL l))) ∧ Below w.heap.size w w' := by
  obtain ⟨A, c, rfl, hc⟩ := h
  by_cases hn : left - l.length < 0
  · have hp := szEL_nonneg l
    have HV := Lib.hid (show leftI left (l.length + szEL l) = -1 by unfold leftI; rw [if_pos (by omega)])
    clear hp
    go_enter Tryd.func33, Tryd.ntmps33
    go_wp2
    go_ret
    exact ⟨ret_int HV.out.symm, Below.refl _ _⟩
  · go_enter Tryd.func33, Tryd.ntmps33
    go_wp2
    go_loopw [1, 5] (fun a i wr => ∃ (j : Nat) (z : Int), j ≤ l.length ∧ i = .int .i64 j ∧ a = .int .i64 z ∧ 0 ≤ z ∧ z ≤ 1048576 ∧ Hid (z = left - l.length - szEL (l.take j)) ∧ Below w.heap.size w wr) (fun _ i _ => l.length - (intOf i).toNat)
    case atStart => exact ⟨0, left - l.length, by omega, rfl, rfl, by omega, by omega, Lib.hid (by rw [List.take_zero]; show _ = _ - (0 : Int); omega), Below.refl _ _⟩
    case round =>
      obtain ⟨j, z, hj, rfl, rfl, hz0, hz1, HZ, hb⟩ := hrel
      by_cases hlt : j < l.length
      · obtain ⟨x, hxj⟩ : ∃ x, l[j]? = some x := ⟨_, List.getElem?_eq_getElem hlt⟩
        obtain ⟨a, u, rfl, ha, hc0, hc1, hc2, hc3, hc4, hr⟩ := hc j x hxj
        have hxl := hx x (List.mem_of_getElem? hxj)
        have k0 := (cell_keep5' hb ha j).trans hc0
        have k1 := (cell_keep5 hb ha j 1).trans hc1
        have k2 := (cell_keep5 hb ha j 2).trans hc2
        have k3 := (cell_keep5 hb ha j 3).trans hc3
        have k4 := (cell_keep5 hb ha j 4).trans hc4
        obtain ⟨A1, c1, rfl⟩ := row_form hr
        rw [intsV_length] at hc3 k3 hr
        go_wp2_with fail
        refine (szE_cal _ x z _ hxl hz0 hz1 (RdE.below ⟨_, rfl, hr⟩ hb)).mono ?_
        rintro e w1 ⟨rfl, b1⟩
        have bb1 := Below.next hb b1
        have hs0 := szE_nonneg x
        have HT := Lib.hid (szEL_take hxj)
        have HTL := Lib.hid (szEL_take_le l (j + 1))
        clear hc0 hc1 hc2 hc3 hc4 k0 k1 k2 k3 k4 hc hxl hr
        by_cases hv : z - szE x < 0
        · have HV := Lib.hid (show leftI left (l.length + szEL l) = -1 by
            have h1 := HT.out
            have h2 := HTL.out
            have h3 := HZ.out
            unfold leftI; rw [if_pos (by omega)])
          rw [show leftI z (szE x) = -1 by unfold leftI; rw [if_pos hv]]
          clear hv hs0
          go_wp2
          go_ret
          exact ⟨ret_int HV.out.symm, bb1⟩
        · rw [show leftI z (szE x) = z - szE x by unfold leftI; rw [if_neg hv]]
          have hnb : decide (z - szE x < 0) = false := decide_eq_false hv
          obtain ⟨z1, hz1e⟩ : ∃ z1, z1 = z - szE x := ⟨_, rfl⟩
          rw [← hz1e] at hnb ⊢
          have HE := Lib.hid (show z1 = left - l.length - szEL (l.take (j + 1)) ∧ 0 ≤ z1 ∧ z1 ≤ 1048576 by
            have h1 := HT.out
            have h3 := HZ.out
            omega)
          clear hv hs0 hz1e
          go_wp2
          go_roundw
          case rel => exact ⟨j + 1, z1, by omega, by go_num, rfl, HE.out.2.1, HE.out.2.2, Lib.hid HE.out.1, bb1⟩
          case measure => simp [intOf]; omega
      · obtain rfl : j = l.length := by omega
        have HV := Lib.hid (show leftI left (l.length + szEL l) = z by
          have h3 := HZ.out
          rw [List.take_length] at h3
          unfold leftI; rw [if_neg (by omega)]; omega)
        clear hc
        go_wp2
        go_ret
        exact ⟨ret_int HV.out.symm, hb⟩
theorem add_ownE (g m : Nat) : (⟨g, 0, none⟩ : Addr).add m = ⟨g, m, none⟩ := by
  unfold Addr.add
  split
  · rename_i h; rw [h]
  · simp
/-- the cells of such a slice -/
def flatE : List (ByteArray × ByteArray × Bool × Value × Int) → List Value
  | [] => []
  | p :: r => .string p.1 :: .string p.2.1 :: .bool p.2.2.1 :: p.2.2.2.1 :: .int .i64 p.2.2.2.2 :: flatE r
theorem flatE_length (e : List (ByteArray × ByteArray × Bool × Value × Int)) : (flatE e).length = e.length * 5 := by
  induction e with
  | nil => rfl
  | cons p r ih => show (flatE r).length + 1 + 1 + 1 + 1 + 1 = (r.length + 1) * 5; omega
theorem flatE_append (e f : List (ByteArray × ByteArray × Bool × Value × Int)) : flatE (e ++ f) = flatE e ++ flatE f := by
  induction e with
  | nil => rfl
  | cons p r ih => show _ :: _ :: _ :: _ :: _ :: flatE (r ++ f) = _; rw [ih]; rfl
theorem flatE_get {e : List (ByteArray × ByteArray × Bool × Value × Int)} {j : Nat} {p : ByteArray × ByteArray × Bool × Value × Int} (h : e[j]? = some p) : (flatE e)[j * 5]? = some (.string p.1) ∧ (flatE e)[j * 5 + 1]? = some (.string p.2.1) ∧ (flatE e)[j * 5 + 2]? = some (.bool p.2.2.1) ∧ (flatE e)[j * 5 + 3]? = some (p.2.2.2.1) ∧ (flatE e)[j * 5 + 4]? = some (.int .i64 p.2.2.2.2) := by
  induction e generalizing j with
  | nil => simp at h
  | cons q r ih =>
    cases j with
    | zero =>
      have : q = p := by simpa using h
      subst this
      exact ⟨rfl, rfl, rfl, rfl, rfl⟩
    | succ j =>
      have := ih (j := j) (by simpa using h)
      rw [show (j + 1) * 5 = j * 5 + 1 + 1 + 1 + 1 + 1 by omega]
      exact this
theorem set_cellsE (xs : List Value) (k : Nat) (v0 v1 v2 v3 v4 : Value) (h : k * 5 + 4 < xs.length) : (((((xs.set (k * 5) v0).set (k * 5 + 1) v1).set (k * 5 + 2) v2).set (k * 5 + 3) v3).set (k * 5 + 4) v4).take ((k + 1) * 5) = xs.take (k * 5) ++ [v0, v1, v2, v3, v4] := by
  rw [show (k + 1) * 5 = k * 5 + 1 + 1 + 1 + 1 + 1 by omega, List.take_succ_eq_append_getElem (by simp; omega), List.take_succ_eq_append_getElem (by simp; omega), List.take_succ_eq_append_getElem (by simp; omega), List.take_succ_eq_append_getElem (by simp; omega), List.take_succ_eq_append_getElem (by simp; omega),
    List.take_set_of_le (by omega), List.take_set_of_le (by omega), List.take_set_of_le (by omega), List.take_set_of_le (by omega), List.take_set_of_le (by omega), List.append_assoc, List.append_assoc, List.append_assoc, List.append_assoc]
  simp
/-- the limbs of these, each on blocks of its own, between lo and hi -/
def OwnEG (w : World) : Nat → List EI → List (ByteArray × ByteArray × Bool × Value × Int) → Nat → Prop
  | lo, [], [], hi => lo ≤ hi
  | lo, x :: l, p :: e, hi => ∃ mid, lo ≤ mid ∧ p.1 = x.1 ∧ p.2.1 = x.2.1 ∧ p.2.2.1 = x.2.2.1.1 ∧ p.2.2.2.2 = x.2.2.2 ∧ w.ownsRow lo 3 1 p.2.2.2.1 x.2.2.1.2.length (intsV x.2.2.1.2) ∧ (∀ b, p.2.2.2.1.ownBlock = some b → b < mid) ∧ OwnEG w mid l e hi
  | _, _, _, _ => False
theorem OwnEG.le {w : World} {lo hi : Nat} {l : List EI} {e : List (ByteArray × ByteArray × Bool × Value × Int)} (h : OwnEG w lo l e hi) : lo ≤ hi := by
  induction l generalizing lo e with
  | nil => cases e with | nil => exact h | cons _ _ => exact h.elim
  | cons x l ih => cases e with | nil => exact h.elim | cons p e => obtain ⟨mid, h1, _, _, _, _, _, _, h2⟩ := h; exact Nat.le_trans h1 (ih h2)
theorem OwnEG.length {w : World} {lo hi : Nat} {l : List EI} {e : List (ByteArray × ByteArray × Bool × Value × Int)} (h : OwnEG w lo l e hi) : e.length = l.length := by
  induction l generalizing lo e with
  | nil => cases e with | nil => rfl | cons _ _ => exact h.elim
  | cons x l ih => cases e with | nil => exact h.elim | cons p e => obtain ⟨mid, _, _, _, _, _, _, _, h2⟩ := h; simp [ih h2]
theorem OwnEG.stays {w w' : World} {lo hi : Nat} {l : List EI} {e : List (ByteArray × ByteArray × Bool × Value × Int)} (h : OwnEG w lo l e hi) (hk : ∀ i, lo ≤ i → i < hi → w'.heap[i]? = w.heap[i]?) : OwnEG w' lo l e hi := by
  induction l generalizing lo e with
  | nil => cases e with | nil => exact h | cons _ _ => exact h.elim
  | cons x l ih =>
    cases e with
    | nil => exact h.elim
    | cons p e =>
      obtain ⟨mid, h1, e0, e1, e2, e4, h3, h4, h5⟩ := h
      have hle := h5.le
      exact ⟨mid, h1, e0, e1, e2, e4, own_stays h3 fun i hi => hk i (own_lt h3 hi).1 (Nat.lt_of_lt_of_le (h4 i hi) hle), h4, ih h5 fun i hi hi2 => hk i (by omega) hi2⟩
theorem OwnEG.wide {w : World} {lo hi hi' : Nat} {l : List EI} {e : List (ByteArray × ByteArray × Bool × Value × Int)} (h : OwnEG w lo l e hi) (hh : hi ≤ hi') : OwnEG w lo l e hi' := by
  induction l generalizing lo e with
  | nil => cases e with | nil => exact Nat.le_trans h hh | cons _ _ => exact h.elim
  | cons x l ih => cases e with | nil => exact h.elim | cons p e => obtain ⟨mid, h1, e0, e1, e2, e4, h3, h4, h5⟩ := h; exact ⟨mid, h1, e0, e1, e2, e4, h3, h4, ih h5⟩
theorem OwnEG.snoc {w : World} {lo mid hi : Nat} {l : List EI} {e : List (ByteArray × ByteArray × Bool × Value × Int)} {x : EI} {u : Value} (h : OwnEG w lo l e mid) (o : w.ownsRow mid 3 1 u x.2.2.1.2.length (intsV x.2.2.1.2)) (hu : ∀ b, u.ownBlock = some b → b < hi) (hh : mid ≤ hi) : OwnEG w lo (l ++ [x]) (e ++ [(x.1, x.2.1, x.2.2.1.1, u, x.2.2.2)]) hi := by
  induction l generalizing lo e with
  | nil =>
    cases e with
    | nil =>
      have hm : lo ≤ mid := h
      exact ⟨hi, Nat.le_trans hm hh, rfl, rfl, rfl, rfl, own_low o hm, hu, Nat.le_refl _⟩
    | cons _ _ => exact h.elim
  | cons y l ih => cases e with | nil => exact h.elim | cons p e => obtain ⟨m, h1, e0, e1, e2, e4, h3, h4, h5⟩ := h; exact ⟨m, h1, e0, e1, e2, e4, h3, h4, ih h5⟩
theorem OwnEG.at_ {w : World} {lo hi : Nat} {l : List EI} {e : List (ByteArray × ByteArray × Bool × Value × Int)} (h : OwnEG w lo l e hi) {j : Nat} {x : EI} (hx : l[j]? = some x) : ∃ u, e[j]? = some (x.1, x.2.1, x.2.2.1.1, u, x.2.2.2) ∧ OwnI u x.2.2.1.2 w := by
  induction l generalizing lo e j with
  | nil => simp at hx
  | cons y l ih =>
    cases e with
    | nil => exact h.elim
    | cons p e =>
      obtain ⟨m, h1, e0, e1, e2, e4, h3, h4, h5⟩ := h
      cases j with
      | zero =>
        have : y = x := by simpa using hx
        subst this
        exact ⟨p.2.2.2.1, by rw [← e0, ← e1, ← e2, ← e4]; rfl, own_zero h3⟩
      | succ j => exact ih h5 (by simpa using hx)
/-- such a slice, of the call's own: its cells and limbs lie between lo and hi -/
def OwnEL (v : Value) (l : List EI) (lo hi : Nat) (w : World) : Prop :=
  ∃ g e, v = .slice (some ⟨g, 0, none⟩) l.length l.length ∧ lo ≤ g ∧ g < hi ∧ hi ≤ w.heap.size ∧ w.ownsRow lo 35 5 v l.length (flatE e) ∧ OwnEG w (g + 1) l e hi
theorem OwnEL.stays {v : Value} {l : List EI} {lo hi : Nat} {w w' : World} (h : OwnEL v l lo hi w) (hk : ∀ i, lo ≤ i → i < hi → w'.heap[i]? = w.heap[i]?) (hz : w.heap.size ≤ w'.heap.size) : OwnEL v l lo hi w' := by
  obtain ⟨g, e, rfl, h1, h2, h3, h4, h5⟩ := h
  exact ⟨g, e, rfl, h1, h2, Nat.le_trans h3 hz, own_stays h4 fun i hi => by cases hi; exact hk g h1 h2, h5.stays fun i hi hi2 => hk i (by omega) hi2⟩
theorem OwnEL.below {v : Value} {l : List EI} {lo hi : Nat} {w w' : World} (h : OwnEL v l lo hi w) (hb : Below w.heap.size w w') : OwnEL v l lo hi w' := by
  have hh := h
  obtain ⟨_, _, _, _, _, h3, _, _⟩ := hh
  exact h.stays (fun i _ hi => hb.block i (by omega)) hb.size
theorem OwnEL.rd {v : Value} {l : List EI} {lo hi : Nat} {w : World} (h : OwnEL v l lo hi w) : RdEL w v l := by
  obtain ⟨g, e, rfl, h1, h2, h3, h4, h5⟩ := h
  refine ⟨_, _, rfl, fun j x hj => ?_⟩
  have hjl := (List.getElem?_eq_some_iff.1 hj).1
  obtain ⟨u, he, ho⟩ := h5.at_ hj
  have hf := flatE_get he
  refine ⟨⟨g, 0, none⟩, u, rfl, by show g < _; omega, ?_, ?_, ?_, ?_, ?_, ho.row⟩
  · have := h4.cellAt (j * 5) (by omega)
    rw [hf.1] at this
    rw [add_ownE]
    exact this
  · have := h4.cellAt (j * 5 + 1) (by omega)
    rw [hf.2.1] at this
    rw [add_ownE]
    exact this
  · have := h4.cellAt (j * 5 + 2) (by omega)
    rw [hf.2.2.1] at this
    rw [add_ownE]
    exact this
  · have := h4.cellAt (j * 5 + 3) (by omega)
    rw [hf.2.2.2.1] at this
    rw [add_ownE]
    exact this
  · have := h4.cellAt (j * 5 + 4) (by omega)
    rw [hf.2.2.2.2] at this
    rw [add_ownE]
    exact this
theorem own_highE {w : World} {base B n size : Nat} {e : TypeId} {v : Value} {xs : List Value} (h : w.ownsRow base e size v n xs) (hb : ∀ g, v.ownBlock = some g → B ≤ g) : w.ownsRow B e size v n xs := by
  obtain ⟨hl, h | ⟨g, cap, cur, rfl, _, r⟩⟩ := h
  · exact ⟨hl, .inl h⟩
  · exact ⟨hl, .inr ⟨g, cap, cur, rfl, hb g rfl, r⟩⟩
/-- a new one's limbs, with where they lie -/
theorem newE_own {x : EI} {w w' : World} {S : List Nat} {c0 c1 c2 u c4 : Value} (o : At S (OwnE (.agg #[c0, c1, c2, u, c4]) x) w') (l : Within S w.heap.size w'.heap.size) : w'.ownsRow w.heap.size 3 1 u x.2.2.1.2.length (intsV x.2.2.1.2) ∧ ∀ b, u.ownBlock = some b → b < w'.heap.size := by
  have hm := at_ints_mem o (fun w' k => ownE_open k)
  exact ⟨own_highE (ownE_open o.here) fun g hg => (l g (hm g hg)).1, fun b hb => (l b (hm b hb)).2⟩
theorem infoEL : (Tryd.prog.info? 35).map (fun i => (i.zero, i.size, i.bytes)) = some (some (.agg #[.string ⟨#[]⟩, .string ⟨#[]⟩, .bool false, .slice none 0 0, .int .i64 0]), 5, 72) := by kernel_rfl
theorem makeEL (n : Nat) (hn : n ≤ 1099511627776) (W : World) :
    (Instr.makeSlice 44 (.int .i64 (n : Int)) (.int .i64 (n : Int))).run Tryd.prog W = .ok (.slice (some ⟨W.heap.size, 0, none⟩) n n) (W.alloc (.cells (madeCells #[.string ⟨#[]⟩, .string ⟨#[]⟩, .bool false, .slice none 0 0, .int .i64 0] (n * 5)) 35)) := by
  obtain ⟨i0, hi, hz0, hz1, hz2⟩ := info_parts infoEL
  have h := run_make (P := Tryd.prog) W 44 35 i0 (.agg #[.string ⟨#[]⟩, .string ⟨#[]⟩, .bool false, .slice none 0 0, .int .i64 0]) Tryd.underlying44 hi hz0 .i64 .i64 (n : Int) (n : Int) (by omega) (by omega) (by rw [hz2]; omega) (by omega)
  rw [hz1, Int.toNat_natCast] at h
  exact h
/-- a new slice of these -/
def NewEL (l : List EI) (w : World) (e : Ending) (w' : World) : Prop := ∃ v, e = .returned v ∧ OwnEL v l w.heap.size w'.heap.size w' ∧ Below w.heap.size w w'

set_option maxHeartbeats 4000000 in
set_option maxRecDepth 100000 in
theorem toRateS_any (v : Value) (l : List EI) (w : World) (hl : l.length ≤ 1048576) (hx : ∀ x ∈ l, szE x ≤ 1048576) (h : RdEL w v l) :
    Calls Tryd.prog 35 #[v] w (NewEL l w) := by
  obtain ⟨A, c, rfl, hc⟩ := h
  have HC := Lib.hid hc
  have hmk := makeEL l.length (by omega)
  clear hc
  go_enter Tryd.func35, Tryd.ntmps35
  go_wp2
  go_loopw [4] (fun i wr => ∃ (k : Nat) (xs : List Value) (e : List (ByteArray × ByteArray × Bool × Value × Int)), k ≤ l.length ∧ i = .int .i64 k ∧ wr.ownsRow w.heap.size 35 5 (.slice (some ⟨w.heap.size, 0, none⟩) l.length l.length) l.length xs ∧ Hid (xs.take (k * 5) = flatE e) ∧ OwnEG wr (w.heap.size + 1) (l.take k) e wr.heap.size ∧ Below w.heap.size w wr) (fun i _ => l.length - (intOf i).toNat)
  case atStart =>
    have h := World.ownsRow_lit (e := 35) (size := 5) (base := w.heap.size) w (madeCells #[.string ⟨#[]⟩, .string ⟨#[]⟩, .bool false, .slice none 0 0, .int .i64 0] (l.length * 5)) l.length (Nat.le_refl _) (by unfold maxLen; omega) (by rw [size_madeCells])
    exact ⟨0, _, [], Nat.zero_le _, rfl, h, Lib.hid (by rw [Nat.zero_mul, List.take_zero]; rfl), by rw [List.take_zero]; show _ ≤ _; simp, (Below.refl _ _).alloc (Nat.le_refl _) _⟩
  case round =>
    obtain ⟨k, xs, e, hk, rfl, ho, HX, hes, hb⟩ := hrel
    by_cases hlt : k < l.length
    · obtain ⟨x, hxk⟩ : ∃ x, l[k]? = some x := ⟨_, List.getElem?_eq_getElem hlt⟩
      obtain ⟨a, u, rfl, ha, hc0, hc1, hc2, hc3, hc4, hr⟩ := HC.out k x hxk
      have hxl := hx x (List.mem_of_getElem? hxk)
      have k0 := (cell_keep5' hb ha k).trans hc0
      have k1 := (cell_keep5 hb ha k 1).trans hc1
      have k2 := (cell_keep5 hb ha k 2).trans hc2
      have k3 := (cell_keep5 hb ha k 3).trans hc3
      have k4 := (cell_keep5 hb ha k 4).trans hc4
      obtain ⟨A1, c1, rfl⟩ := row_form hr
      rw [intsV_length] at hc3 k3 hr
      go_wp2_with fail
      refine (toE_new _ x _ hxl (RdE.below ⟨_, rfl, hr⟩ hb)).mono ?_
      rintro e' w1 ⟨u0, S1, rfl, o0, l0, b1⟩
      obtain ⟨A2, c2, rfl⟩ := ownE_form o0.here
      obtain ⟨o1, hu1⟩ := newE_own o0 l0
      have bb1 := Below.next hb b1
      have ho1 := own_below ho b1
      have hxs := ho1.1
      have hcell0 := ho1.cellAt (k * 5) (by omega)
      have hcell1 := ho1.cellAt (k * 5 + 1) (by omega)
      have hcell2 := ho1.cellAt (k * 5 + 2) (by omega)
      have hcell3 := ho1.cellAt (k * 5 + 3) (by omega)
      have hcell4 := ho1.cellAt (k * 5 + 4) (by omega)
      rw [List.getElem?_eq_getElem (by omega)] at hcell0 hcell1 hcell2 hcell3 hcell4
      have hfr0 := ho1.frozenAt (k * 5)
      have hfr1 := ho1.frozenAt (k * 5 + 1)
      have hfr2 := ho1.frozenAt (k * 5 + 2)
      have hfr3 := ho1.frozenAt (k * 5 + 3)
      have hfr4 := ho1.frozenAt (k * 5 + 4)
      obtain ⟨hp0, hg0⟩ := ho1.stored (k * 5) (.string x.1)
      obtain ⟨hp1, hg1⟩ := hp0.stored (k * 5 + 1) (.string x.2.1)
      obtain ⟨hp2, hg2⟩ := hp1.stored (k * 5 + 2) (.bool x.2.2.1.1)
      obtain ⟨hp3, hg3⟩ := hp2.stored (k * 5 + 3) (.slice A2 x.2.2.1.2.length c2)
      obtain ⟨hp4, hg4⟩ := hp3.stored (k * 5 + 4) (.int .i64 x.2.2.2)
      have hlw : w.heap.size < wr.heap.size := (own_lt ho (g := w.heap.size) rfl).2
      have hes1 := OwnEG.snoc (hi := w1.heap.size) (hes.stays fun i _ hi => b1.block i hi) o1 hu1 b1.size
      have hes2 : OwnEG (((((w1.setCell ⟨w.heap.size, k * 5, none⟩ (.string x.1)).setCell ⟨w.heap.size, k * 5 + 1, none⟩ (.string x.2.1)).setCell ⟨w.heap.size, k * 5 + 2, none⟩ (.bool x.2.2.1.1)).setCell ⟨w.heap.size, k * 5 + 3, none⟩ (.slice A2 x.2.2.1.2.length c2)).setCell ⟨w.heap.size, k * 5 + 4, none⟩ (.int .i64 x.2.2.2)) (w.heap.size + 1) (l.take (k + 1)) (e ++ [(x.1, x.2.1, x.2.2.1.1, .slice A2 x.2.2.1.2.length c2, x.2.2.2)]) (((((w1.setCell ⟨w.heap.size, k * 5, none⟩ (.string x.1)).setCell ⟨w.heap.size, k * 5 + 1, none⟩ (.string x.2.1)).setCell ⟨w.heap.size, k * 5 + 2, none⟩ (.bool x.2.2.1.1)).setCell ⟨w.heap.size, k * 5 + 3, none⟩ (.slice A2 x.2.2.1.2.length c2)).setCell ⟨w.heap.size, k * 5 + 4, none⟩ (.int .i64 x.2.2.2)).heap.size := by
        rw [List.take_succ_eq_append_getElem hlt, (List.getElem?_eq_some_iff.1 hxk).2]
        refine (hes1.stays fun i hi _ => ?_).wide (by simp [World.setCell])
        have hne : i ≠ w.heap.size := by omega
        rw [Below.heap_setCell _ _ _ _ hne, Below.heap_setCell _ _ _ _ hne, Below.heap_setCell _ _ _ _ hne, Below.heap_setCell _ _ _ _ hne, Below.heap_setCell _ _ _ _ hne]
      have hb3 : Below w.heap.size w (((((w1.setCell ⟨w.heap.size, k * 5, none⟩ (.string x.1)).setCell ⟨w.heap.size, k * 5 + 1, none⟩ (.string x.2.1)).setCell ⟨w.heap.size, k * 5 + 2, none⟩ (.bool x.2.2.1.1)).setCell ⟨w.heap.size, k * 5 + 3, none⟩ (.slice A2 x.2.2.1.2.length c2)).setCell ⟨w.heap.size, k * 5 + 4, none⟩ (.int .i64 x.2.2.2)) := (((((bb1.setCell (p := ⟨w.heap.size, k * 5, none⟩) (Nat.le_refl _) _).setCell (p := ⟨w.heap.size, k * 5 + 1, none⟩) (Nat.le_refl _) _).setCell (p := ⟨w.heap.size, k * 5 + 2, none⟩) (Nat.le_refl _) _).setCell (p := ⟨w.heap.size, k * 5 + 3, none⟩) (Nat.le_refl _) _).setCell (p := ⟨w.heap.size, k * 5 + 4, none⟩) (Nat.le_refl _) _)
      have HF := Lib.hid (show (((((xs.set (k * 5) (.string x.1)).set (k * 5 + 1) (.string x.2.1)).set (k * 5 + 2) (.bool x.2.2.1.1)).set (k * 5 + 3) (.slice A2 x.2.2.1.2.length c2)).set (k * 5 + 4) (.int .i64 x.2.2.2)).take ((k + 1) * 5) = flatE (e ++ [(x.1, x.2.1, x.2.2.1.1, .slice A2 x.2.2.1.2.length c2, x.2.2.2)]) by
        rw [set_cellsE xs k _ _ _ _ _  (by omega), HX.out, flatE_append]; rfl)
      have H3 := Lib.hid hp4
      have HE2 := Lib.hid hes2
      have HB3 := Lib.hid hb3
      clear hes hes1 hes2 ho ho1 hp0 hg0 hp1 hg1 hp2 hg2 hp3 hg3 hp4 hg4 hb3 o1 o0 l0 hu1 k0 k1 k2 k3 k4 hc0 hc1 hc2 hc3 hc4 hr b1 bb1
      go_wp2
      go_roundw
      case rel => exact ⟨k + 1, _, _, by omega, by go_num, H3.out, HF, HE2.out, HB3.out⟩
      case measure => simp [intOf]; omega
    · obtain rfl : k = l.length := by omega
      have hxs := ho.1
      have he : xs = flatE e := by rw [← HX.out, List.take_of_length_le (by omega)]
      rw [List.take_length] at hes
      have hlw : w.heap.size < wr.heap.size := (own_lt ho (g := w.heap.size) rfl).2
      have HO := Lib.hid (show OwnEL (.slice (some ⟨w.heap.size, 0, none⟩) l.length l.length) l w.heap.size wr.heap.size wr from ⟨w.heap.size, e, rfl, Nat.le_refl _, hlw, Nat.le_refl _, by rw [← he]; exact ho, hes⟩)
      clear he hes hxs ho
      go_wp2
      go_ret
      exact ⟨_, rfl, HO.out, hb⟩
set_option maxHeartbeats 4000000 in
set_option maxRecDepth 100000 in
theorem eqRateS_any (va vb : Value) (ss ts : List EI) (w : World) (hl : ss.length ≤ 140737488355328) (hx : ∀ x ∈ ss, capE x) (hra : RdEL w va ss) (hrb : RdEL w vb ts) :
    Calls Tryd.prog 37 #[va, vb] w fun e w' => e = .returned (.bool (decide (ss = ts))) ∧ Below w.heap.size w w' := by
  obtain ⟨A, c, rfl, hA⟩ := hra
  obtain ⟨B, d, rfl, hB⟩ := hrb
  have HA := Lib.hid hA
  have HB := Lib.hid hB
  clear hA hB
  by_cases hlen : ss.length = ts.length
  · have HL := Lib.hid hlen
    have hbe : ((ss.length : Int) != (ts.length : Int)) = false := by simp [hlen]
    clear hlen
    go_enter Tryd.func37, Tryd.ntmps37
    go_wp2
    go_loopw [5] (fun i wr => ∃ k : Nat, k ≤ ss.length ∧ i = .int .i64 k ∧ Below w.heap.size w wr ∧ Hid (ss.take k = ts.take k)) (fun i _ => ss.length - (intOf i).toNat)
    case atStart => exact ⟨0, Nat.zero_le _, rfl, Below.refl _ _, Lib.hid rfl⟩
    case round =>
      obtain ⟨k, hk, rfl, hb, HT⟩ := hrel
      by_cases hlt : k < ss.length
      · have hlt2 : k < ts.length := by have := HL.out; omega
        obtain ⟨a, u, rfl, ha, hc0, hc1, hc2, hc3, hc4, hr⟩ := HA.out k ss[k] (List.getElem?_eq_getElem hlt)
        obtain ⟨b, v, rfl, ha', hd0, hd1, hd2, hd3, hd4, hr'⟩ := HB.out k ts[k] (List.getElem?_eq_getElem hlt2)
        have hxl := hx ss[k] (List.getElem_mem hlt)
        obtain ⟨A1, c1, rfl⟩ := row_form hr
        obtain ⟨B1, d1, rfl⟩ := row_form hr'
        rw [intsV_length] at hc3 hr hd3 hr'
        have HR := Lib.hid (show ∀ W, Below w.heap.size w W → RdE W (.agg #[.string ss[k].1, .string ss[k].2.1, .bool ss[k].2.2.1.1, .slice A1 ss[k].2.2.1.2.length c1, .int .i64 ss[k].2.2.2]) ss[k] from fun W hb => RdE.below ⟨_, rfl, hr⟩ hb)
        have HR' := Lib.hid (show ∀ W, Below w.heap.size w W → RdE W (.agg #[.string ts[k].1, .string ts[k].2.1, .bool ts[k].2.2.1.1, .slice B1 ts[k].2.2.1.2.length d1, .int .i64 ts[k].2.2.2]) ts[k] from fun W hb => RdE.below ⟨_, rfl, hr'⟩ hb)
        have HCC := Lib.hid (show a.block < w.heap.size ∧ b.block < w.heap.size ∧ w.cell? (a.add (k * 5)) = some (.string ss[k].1) ∧ w.cell? ⟨(a.add (k * 5)).block, (a.add (k * 5)).off + 1, none⟩ = some (.string ss[k].2.1) ∧ w.cell? ⟨(a.add (k * 5)).block, (a.add (k * 5)).off + 2, none⟩ = some (.bool ss[k].2.2.1.1) ∧ w.cell? ⟨(a.add (k * 5)).block, (a.add (k * 5)).off + 3, none⟩ = some (.slice A1 ss[k].2.2.1.2.length c1) ∧ w.cell? ⟨(a.add (k * 5)).block, (a.add (k * 5)).off + 4, none⟩ = some (.int .i64 ss[k].2.2.2) ∧ w.cell? (b.add (k * 5)) = some (.string ts[k].1) ∧ w.cell? ⟨(b.add (k * 5)).block, (b.add (k * 5)).off + 1, none⟩ = some (.string ts[k].2.1) ∧ w.cell? ⟨(b.add (k * 5)).block, (b.add (k * 5)).off + 2, none⟩ = some (.bool ts[k].2.2.1.1) ∧ w.cell? ⟨(b.add (k * 5)).block, (b.add (k * 5)).off + 3, none⟩ = some (.slice B1 ts[k].2.2.1.2.length d1) ∧ w.cell? ⟨(b.add (k * 5)).block, (b.add (k * 5)).off + 4, none⟩ = some (.int .i64 ts[k].2.2.2) from ⟨ha, ha', hc0, hc1, hc2, hc3, hc4, hd0, hd1, hd2, hd3, hd4⟩)
        have HTS := Lib.hid (show (ss[k] = ts[k] → ss.take (k + 1) = ts.take (k + 1)) ∧ (¬ ss[k] = ts[k] → ¬ ss = ts) from ⟨take_same_succ HT.out hlt hlt2, ne_of_at hlt hlt2⟩)
        generalize ss[k] = x at *
        generalize ts[k] = y at *
        have KL := Lib.hid (show ∀ W, Below w.heap.size w W → W.cell? (a.add (k * 5)) = some (.string x.1) ∧ W.cell? ⟨(a.add (k * 5)).block, (a.add (k * 5)).off + 1, none⟩ = some (.string x.2.1) ∧ W.cell? ⟨(a.add (k * 5)).block, (a.add (k * 5)).off + 2, none⟩ = some (.bool x.2.2.1.1) ∧ W.cell? ⟨(a.add (k * 5)).block, (a.add (k * 5)).off + 3, none⟩ = some (.slice A1 x.2.2.1.2.length c1) ∧ W.cell? ⟨(a.add (k * 5)).block, (a.add (k * 5)).off + 4, none⟩ = some (.int .i64 x.2.2.2) ∧ W.cell? (b.add (k * 5)) = some (.string y.1) ∧ W.cell? ⟨(b.add (k * 5)).block, (b.add (k * 5)).off + 1, none⟩ = some (.string y.2.1) ∧ W.cell? ⟨(b.add (k * 5)).block, (b.add (k * 5)).off + 2, none⟩ = some (.bool y.2.2.1.1) ∧ W.cell? ⟨(b.add (k * 5)).block, (b.add (k * 5)).off + 3, none⟩ = some (.slice B1 y.2.2.1.2.length d1) ∧ W.cell? ⟨(b.add (k * 5)).block, (b.add (k * 5)).off + 4, none⟩ = some (.int .i64 y.2.2.2) ∧ Hid (Below w.heap.size w W) from
          fun W hb => by
            obtain ⟨h1, h2, h3, h4, h5, h6, h7, h8, h9, h10, h11, h12⟩ := HCC.out
            exact ⟨(cell_keep5' hb h1 k).trans h3, (cell_keep5 hb h1 k 1).trans h4, (cell_keep5 hb h1 k 2).trans h5, (cell_keep5 hb h1 k 3).trans h6, (cell_keep5 hb h1 k 4).trans h7, (cell_keep5' hb h2 k).trans h8, (cell_keep5 hb h2 k 1).trans h9, (cell_keep5 hb h2 k 2).trans h10, (cell_keep5 hb h2 k 3).trans h11, (cell_keep5 hb h2 k 4).trans h12, Lib.hid hb⟩)
        have HB0 := Lib.hid hb
        have HXL := Lib.hid hxl
        clear hb hc0 hc1 hc2 hc3 hc4 hd0 hd1 hd2 hd3 hd4 hr hr' ha ha' hxl HCC
        go_wp2
        go_region_held3 (fun W => W.cell? (a.add (k * 5)) = some (.string x.1) ∧ W.cell? ⟨(a.add (k * 5)).block, (a.add (k * 5)).off + 1, none⟩ = some (.string x.2.1) ∧ W.cell? ⟨(a.add (k * 5)).block, (a.add (k * 5)).off + 2, none⟩ = some (.bool x.2.2.1.1) ∧ W.cell? ⟨(a.add (k * 5)).block, (a.add (k * 5)).off + 3, none⟩ = some (.slice A1 x.2.2.1.2.length c1) ∧ W.cell? ⟨(a.add (k * 5)).block, (a.add (k * 5)).off + 4, none⟩ = some (.int .i64 x.2.2.2) ∧ W.cell? (b.add (k * 5)) = some (.string y.1) ∧ W.cell? ⟨(b.add (k * 5)).block, (b.add (k * 5)).off + 1, none⟩ = some (.string y.2.1) ∧ W.cell? ⟨(b.add (k * 5)).block, (b.add (k * 5)).off + 2, none⟩ = some (.bool y.2.2.1.1) ∧ W.cell? ⟨(b.add (k * 5)).block, (b.add (k * 5)).off + 3, none⟩ = some (.slice B1 y.2.2.1.2.length d1) ∧ W.cell? ⟨(b.add (k * 5)).block, (b.add (k * 5)).off + 4, none⟩ = some (.int .i64 y.2.2.2) ∧ Hid (Below w.heap.size w W))
          ((refine KL.out _ ?_; (first | exact HB1.out | exact HB0.out.drew | fail)))
          (first
            | (go_at_call 11; (have hBB := (‹_ ∧ _ ∧ _ ∧ _ ∧ _ ∧ _ ∧ _ ∧ _ ∧ _ ∧ _ ∧ Hid (Below w.heap.size w _)›).2.2.2.2.2.2.2.2.2.2); (with_reducible refine (eqE_cal _ _ x y _ HXL.out (HR.out _ hBB.out) (HR'.out _ hBB.out)).mono ?_); rintro e w1 ⟨rfl, b1⟩; have HB1 := Lib.hid (Below.next hBB.out b1); clear hBB b1))
        by_cases he : x = y
        · have hdt : decide (x = y) = true := decide_eq_true he
          rw [hdt]
          have HE := Lib.hid (HTS.out.1 he)
          clear hdt he
          go_wp2
          go_roundw
          case rel => exact ⟨k + 1, by omega, by go_num, HB1.out, HE⟩
          case measure => simp [intOf]; omega
        · have hdt : decide (x = y) = false := decide_eq_false he
          rw [hdt]
          have HE := Lib.hid (HTS.out.2 he)
          clear hdt he
          go_wp2
          go_ret
          exact ⟨ret_bool (decide_eq_false HE.out).symm, HB1.out⟩
      · go_wp2
        go_ret
        exact ⟨ret_bool (decide_eq_true (same_of_takes HT.out HL.out hlt)).symm, hb⟩
  · have hbe : ((ss.length : Int) != (ts.length : Int)) = true := by simp; omega
    go_enter Tryd.func37, Tryd.ntmps37
    go_wp2
    go_ret
    exact ⟨ret_bool (decide_eq_false (fun e => hlen (by rw [e]))).symm, Below.refl _ _⟩
/-- the blocks from lo on, ahead of hi -/
def rangeE (lo hi : Nat) : List Nat := List.range' lo (hi - lo)
theorem mem_rangeE {lo hi g : Nat} (h : lo ≤ g) (h2 : g < hi) : g ∈ rangeE lo hi := by
  unfold rangeE
  rw [List.mem_range'_1]
  omega
theorem rangeE_mem {lo hi g : Nat} (h : g ∈ rangeE lo hi) : lo ≤ g ∧ g < hi := by
  unfold rangeE at h
  rw [List.mem_range'_1] at h
  omega
theorem Chg.grownE {S : List Nat} {w w1 w2 : World} {v : Value} (h : Chg S w w1) (hg : w1.grownBy w2 v.ownBlock) (hS : ∀ b, v.ownBlock = some b → b ∈ S) : Chg S w w2 :=
  h.trans ((Chg.of_grown hg).more fun g hg => hS g (by simpa using hg))
/-- how much a mark of it takes -/
def mkEL : List EI → Int
  | [] => 0
  | x :: l => 4 + x.2.2.1.2.length + mkEL l
theorem mkEL_nonneg (l : List EI) : 0 ≤ mkEL l := by
  induction l with
  | nil => exact Int.le_refl _
  | cons x l ih => show 0 ≤ 4 + (x.2.2.1.2.length : Int) + mkEL l; omega
theorem mkEL_len (l : List EI) : (l.length : Int) ≤ mkEL l := by
  induction l with
  | nil => exact Int.le_refl _
  | cons x l ih => show ((l.length + 1 : Nat) : Int) ≤ 4 + (x.2.2.1.2.length : Int) + mkEL l; omega
theorem mkEL_append (l r : List EI) : mkEL (l ++ r) = mkEL l + mkEL r := by
  induction l with
  | nil => show mkEL r = 0 + mkEL r; omega
  | cons x l ih => show 4 + (x.2.2.1.2.length : Int) + mkEL (l ++ r) = 4 + (x.2.2.1.2.length : Int) + mkEL l + mkEL r; rw [ih]; omega
theorem mkEL_take {l : List EI} {j : Nat} {x : EI} (h : l[j]? = some x) : mkEL (l.take (j + 1)) = mkEL (l.take j) + (4 + x.2.2.1.2.length) := by
  have hj := (List.getElem?_eq_some_iff.1 h).1
  have e : l[j] = x := (List.getElem?_eq_some_iff.1 h).2
  rw [List.take_succ_eq_append_getElem hj, mkEL_append, e]
  show _ + (4 + (x.2.2.1.2.length : Int) + 0) = _
  omega
theorem mkEL_take_le (l : List EI) (j : Nat) : mkEL (l.take j) ≤ mkEL l := by
  have := mkEL_append (l.take j) (l.drop j)
  rw [List.take_append_drop] at this
  have := mkEL_nonneg (l.drop j)
  omega
end Go.Proofs.YtbpfabicampdkaaDoor

namespace Go.Proofs.YtbpfabicampdkaaDoor
open Go.RowKit

/-- an element's cells: From, To, the sign, the limbs' slice, the scale -/
abbrev CE : Type := ByteArray × ByteArray × Bool × Value × Int
/-- it stands for this rate, its limbs of the call's own -/
def CellE (p : CE) (x : EI) (w : World) : Prop := p.1 = x.1 ∧ p.2.1 = x.2.1 ∧ p.2.2.1 = x.2.2.1.1 ∧ p.2.2.2.2 = x.2.2.2 ∧ OwnI p.2.2.2.1 x.2.2.1.2 w
/-- no two limbs' slices on one block, and none on v's -/
def ApartE (v : Value) (e : List CE) : Prop :=
  (∀ (i j : Nat) p q b, e[i]? = some p → e[j]? = some q → p.2.2.2.1.ownBlock = some b → q.2.2.2.1.ownBlock = some b → i = j) ∧ ∀ (i : Nat) p b, e[i]? = some p → p.2.2.2.1.ownBlock = some b → v.ownBlock ≠ some b
/-- such a slice, of the call's own -/
def OwnEP (v : Value) (l : List EI) (w : World) : Prop :=
  ∃ e : List CE, w.ownsRow 0 35 5 v l.length (flatE e) ∧ e.length = l.length ∧ (∀ (j : Nat) x p, l[j]? = some x → e[j]? = some p → CellE p x w) ∧ ApartE v e
/-- a slice that reads as these rates, their limbs of the call's own -/
def OwnER (w : World) (v : Value) (l : List EI) : Prop :=
  ∃ A c, v = .slice A l.length c ∧ ∀ (j : Nat) x, l[j]? = some x → ∃ a u, A = some a ∧ a.block < w.heap.size ∧ w.cell? (a.add (j * 5)) = some (.string x.1) ∧ w.cell? ⟨(a.add (j * 5)).block, (a.add (j * 5)).off + 1, none⟩ = some (.string x.2.1) ∧ w.cell? ⟨(a.add (j * 5)).block, (a.add (j * 5)).off + 2, none⟩ = some (.bool x.2.2.1.1) ∧ w.cell? ⟨(a.add (j * 5)).block, (a.add (j * 5)).off + 3, none⟩ = some u ∧ w.cell? ⟨(a.add (j * 5)).block, (a.add (j * 5)).off + 4, none⟩ = some (.int .i64 x.2.2.2) ∧ OwnI u x.2.2.1.2 w
theorem OwnER.below {w w' : World} {v : Value} {l : List EI} (h : OwnER w v l) (hb : Below w.heap.size w w') : OwnER w' v l := by
  obtain ⟨A, c, rfl, h⟩ := h
  refine ⟨A, c, rfl, fun j x hj => ?_⟩
  obtain ⟨a, u, rfl, h1, h2, h3, h4, h5, h6, h7⟩ := h j x hj
  exact ⟨a, u, rfl, Nat.lt_of_lt_of_le h1 hb.size, (cell_keep5' hb h1 j).trans h2, (cell_keep5 hb h1 j 1).trans h3, (cell_keep5 hb h1 j 2).trans h4, (cell_keep5 hb h1 j 3).trans h5, (cell_keep5 hb h1 j 4).trans h6, own_below h7 hb⟩
theorem OwnER.rd {w : World} {v : Value} {l : List EI} (h : OwnER w v l) : RdEL w v l := by
  obtain ⟨A, c, rfl, h⟩ := h
  refine ⟨A, c, rfl, fun j x hj => ?_⟩
  obtain ⟨a, u, rfl, h1, h2, h3, h4, h5, h6, h7⟩ := h j x hj
  exact ⟨a, u, rfl, h1, h2, h3, h4, h5, h6, h7.row⟩
theorem own_lenE {w : World} {base n size : Nat} {e : TypeId} {v : Value} {xs : List Value} (h : w.ownsRow base e size v n xs) : ∃ A c, v = .slice A n c := by
  rcases h.2 with ⟨rfl, rfl⟩ | ⟨g, cap, cur, rfl, _⟩
  · exact ⟨_, _, rfl⟩
  · exact ⟨_, _, rfl⟩
theorem own_lowE {w : World} {base base' n size : Nat} {e : TypeId} {v : Value} {xs : List Value} (h : w.ownsRow base e size v n xs) (hb : base' ≤ base) : w.ownsRow base' e size v n xs := by
  obtain ⟨hl, h | ⟨g, cap, cur, rfl, hg, r⟩⟩ := h
  · exact ⟨hl, .inl h⟩
  · exact ⟨hl, .inr ⟨g, cap, cur, rfl, by omega, r⟩⟩
theorem OwnEP.below {v : Value} {l : List EI} {w w' : World} (h : OwnEP v l w) (hb : Below w.heap.size w w') : OwnEP v l w' := by
  obtain ⟨e, h4, h5, h6, h7⟩ := h
  refine ⟨e, own_below h4 hb, h5, fun j x p hx hp => ?_, h7⟩
  obtain ⟨e0, e1, e2, e3, ho⟩ := h6 j x p hx hp
  exact ⟨e0, e1, e2, e3, own_below ho hb⟩
theorem OwnEP.ownR {v : Value} {l : List EI} {w : World} (h : OwnEP v l w) : OwnER w v l := by
  obtain ⟨e, h4, hlen, h5, _⟩ := h
  obtain ⟨A, c, rfl⟩ := own_lenE h4
  refine ⟨A, c, rfl, fun j x hj => ?_⟩
  have hjl := (List.getElem?_eq_some_iff.1 hj).1
  obtain ⟨g, cap, ev, _, hg, _⟩ := own_form h4 (by omega)
  cases ev
  obtain ⟨p, hp⟩ : ∃ p, e[j]? = some p := ⟨_, List.getElem?_eq_getElem (by omega)⟩
  obtain ⟨e0, e1, e2, e3, ho⟩ := h5 j x p hj hp
  have hf := flatE_get hp
  rw [e0, e1, e2, e3] at hf
  refine ⟨⟨g, 0, none⟩, p.2.2.2.1, rfl, hg, ?_, ?_, ?_, ?_, ?_, ho⟩
  · have := h4.cellAt (j * 5) (by omega)
    rw [hf.1] at this
    rw [add_ownE]
    exact this
  · have := h4.cellAt (j * 5 + 1) (by omega)
    rw [hf.2.1] at this
    rw [add_ownE]
    exact this
  · have := h4.cellAt (j * 5 + 2) (by omega)
    rw [hf.2.2.1] at this
    rw [add_ownE]
    exact this
  · have := h4.cellAt (j * 5 + 3) (by omega)
    rw [hf.2.2.2.1] at this
    rw [add_ownE]
    exact this
  · have := h4.cellAt (j * 5 + 4) (by omega)
    rw [hf.2.2.2.2] at this
    rw [add_ownE]
    exact this
theorem OwnEG.blocks {w : World} {lo hi : Nat} {l : List EI} {e : List CE} (h : OwnEG w lo l e hi) : ∀ (i : Nat) p b, e[i]? = some p → p.2.2.2.1.ownBlock = some b → lo ≤ b ∧ b < hi := by
  induction l generalizing lo e with
  | nil =>
    cases e with
    | nil => intro i p b hp; simp at hp
    | cons _ _ => exact h.elim
  | cons x l ih =>
    cases e with
    | nil => exact h.elim
    | cons q e =>
      obtain ⟨mid, h1, _, _, _, _, h3, h4, h5⟩ := h
      intro i p b hp hb
      have hle := h5.le
      cases i with
      | zero =>
        obtain rfl : q = p := by simpa using hp
        have := h4 b hb
        exact ⟨(own_lt h3 hb).1, by omega⟩
      | succ i =>
        have := ih h5 i p b (by simpa using hp) hb
        omega
theorem OwnEG.apart {w : World} {lo hi : Nat} {l : List EI} {e : List CE} (h : OwnEG w lo l e hi) : ∀ (i j : Nat) p q b, e[i]? = some p → e[j]? = some q → p.2.2.2.1.ownBlock = some b → q.2.2.2.1.ownBlock = some b → i = j := by
  induction l generalizing lo e with
  | nil =>
    cases e with
    | nil => intro i j p q b hp; simp at hp
    | cons _ _ => exact h.elim
  | cons x l ih =>
    cases e with
    | nil => exact h.elim
    | cons r e =>
      obtain ⟨mid, h1, _, _, _, _, h3, h4, h5⟩ := h
      intro i j p q b hp hq hpb hqb
      cases i with
      | zero =>
        cases j with
        | zero => rfl
        | succ j =>
          exfalso
          obtain rfl : r = p := by simpa using hp
          have := h4 b hpb
          have := (h5.blocks j q b (by simpa using hq) hqb).1
          omega
      | succ i =>
        cases j with
        | zero =>
          exfalso
          obtain rfl : r = q := by simpa using hq
          have := h4 b hqb
          have := (h5.blocks i p b (by simpa using hp) hpb).1
          omega
        | succ j => rw [ih h5 i j p q b (by simpa using hp) (by simpa using hq) hpb hqb]
theorem OwnEL.own {v : Value} {l : List EI} {lo hi : Nat} {w : World} (h : OwnEL v l lo hi w) : OwnEP v l w := by
  obtain ⟨g, e, rfl, h1, h2, h3, h4, h5⟩ := h
  refine ⟨e, own_lowE h4 (Nat.zero_le _), h5.length, fun j x p hx hp => ?_, h5.apart, fun i p b hp hb hv => ?_⟩
  · obtain ⟨u, he, ho⟩ := h5.at_ hx
    rw [he] at hp
    cases hp
    exact ⟨rfl, rfl, rfl, rfl, ho⟩
  · have := (h5.blocks i p b hp hb).1
    have hg : g = b := by
      have : (some g : Option Nat) = some b := hv
      injection this
    omega
/-- the blocks that it lies on -/
def blocksE (v : Value) (e : List CE) : List Nat := v.ownBlock.toList ++ e.flatMap fun p => p.2.2.2.1.ownBlock.toList
theorem blocksE_v {v : Value} {e : List CE} {b : Nat} (h : v.ownBlock = some b) : b ∈ blocksE v e := by
  unfold blocksE
  rw [h]
  simp
theorem blocksE_e {v : Value} {e : List CE} {p : CE} {b : Nat} (hp : p ∈ e) (h : p.2.2.2.1.ownBlock = some b) : b ∈ blocksE v e :=
  List.mem_append_right _ (List.mem_flatMap.2 ⟨p, hp, by rw [h]; simp⟩)
theorem blocksE_mem {v : Value} {e : List CE} {b : Nat} (h : b ∈ blocksE v e) : v.ownBlock = some b ∨ ∃ (j : Nat) (p : CE), e[j]? = some p ∧ p.2.2.2.1.ownBlock = some b := by
  rcases List.mem_append.1 h with h | h
  · left; simpa using h
  · right
    obtain ⟨p, hp, hb⟩ := List.mem_flatMap.1 h
    obtain ⟨j, hj⟩ := List.mem_iff_getElem?.1 hp
    exact ⟨j, p, hj, by simpa using hb⟩
theorem ownEP_at {v : Value} {l : List EI} {w : World} {e : List CE} (h4 : w.ownsRow 0 35 5 v l.length (flatE e)) (hl : e.length = l.length) (h5 : ∀ (j : Nat) x p, l[j]? = some x → e[j]? = some p → CellE p x w) (h6 : ApartE v e) : At (blocksE v e) (OwnEP v l) w := by
  refine ⟨⟨e, h4, hl, h5, h6⟩, fun g hg => ?_, fun w' hk => ⟨e, own_stays h4 fun g hg => hk g (blocksE_v hg), hl, fun j x p hx hp => ?_, h6⟩⟩
  · rcases blocksE_mem hg with h | ⟨j, p, hp, h⟩
    · exact (own_lt h4 h).2
    · obtain ⟨x, hx⟩ : ∃ x, l[j]? = some x := ⟨_, List.getElem?_eq_getElem (by have := (List.getElem?_eq_some_iff.1 hp).1; omega)⟩
      exact (own_lt (h5 j x p hx hp).2.2.2.2 h).2
  · obtain ⟨e0, e1, e2, e3, ho⟩ := h5 j x p hx hp
    exact ⟨e0, e1, e2, e3, own_stays ho fun g hg => hk g (blocksE_e (List.mem_of_getElem? hp) hg)⟩
/-- a fact that says what a row holds leans on its block -/
theorem at_row_memE {S : List Nat} {φ : World → Prop} {w : World} {u : Value} {T : TypeId} {size : Nat} (hT : ¬ T = 4) (h : At S φ w) (hi : ∀ w', φ w' → ∃ base n xs, w'.ownsRow base T size u n xs) : ∀ g, u.ownBlock = some g → g ∈ S := by
  intro g hg
  rcases Classical.em (g ∈ S) with hin | hout
  · exact hin
  · exfalso
    obtain ⟨b1, n1, x1, h1⟩ := hi _ h.here
    obtain ⟨b2, n2, x2, hst⟩ := hi _ (h.stays { w with heap := w.heap.set! g (.cells #[] 4 (0, 0)) } (fun i hi => by
      have : i ≠ g := fun e => hout (e ▸ hi)
      simp [Ne.symm this]))
    have hlt := (own_lt h1 hg).2
    obtain ⟨_, ⟨rfl, _⟩ | ⟨g', cap, cur, rfl, _, hh, _⟩⟩ := hst
    · cases hg
    · cases hg
      have hlt' : g' < w.heap.size := hlt
      have hh' : (w.heap.setIfInBounds g' (.cells #[] 4 (0, 0)))[g']? = some (.cells cur T (0, 0)) := hh
      rw [Array.getElem?_setIfInBounds_self_of_lt hlt'] at hh'
      injection hh' with hh'
      injection hh' with e1 e2
      exact hT e2.symm
theorem atEP_mem {S : List Nat} {u : Value} {l : List EI} {w : World} (h : At S (OwnEP u l) w) : ∃ e : List CE, w.ownsRow 0 35 5 u l.length (flatE e) ∧ e.length = l.length ∧ (∀ (j : Nat) x p, l[j]? = some x → e[j]? = some p → CellE p x w) ∧ ApartE u e ∧ (∀ b, u.ownBlock = some b → b ∈ S) ∧ ∀ p ∈ e, ∀ b, p.2.2.2.1.ownBlock = some b → b ∈ S := by
  have hg : ∀ b, u.ownBlock = some b → b ∈ S := at_row_memE (T := 35) (size := 5) (by decide) h (fun W k => by
    obtain ⟨e, k4, _⟩ := k
    exact ⟨_, _, _, k4⟩)
  obtain ⟨e, h4, hl, h5, h6⟩ := h.here
  refine ⟨e, h4, hl, h5, h6, hg, fun p hp b hb => ?_⟩
  obtain ⟨j, hj⟩ := List.mem_iff_getElem?.1 hp
  have hjl : j < l.length := by have := (List.getElem?_eq_some_iff.1 hj).1; omega
  obtain ⟨x, hx⟩ : ∃ x, l[j]? = some x := ⟨_, List.getElem?_eq_getElem hjl⟩
  obtain ⟨g, cap, rfl, _, _, _⟩ := own_form h4 (by omega)
  have hgS := hg g rfl
  have hc := h4.cellAt (j * 5 + 3) (by omega)
  rw [(flatE_get hj).2.2.2.1] at hc
  have h' : At S (fun W => OwnEP (.slice (some ⟨g, 0, none⟩) l.length cap) l W ∧ W.heap[g]? = w.heap[g]?) w := ⟨⟨h.here, rfl⟩, h.lt, fun W hk => ⟨h.stays W hk, hk g hgS⟩⟩
  refine at_row_memE (T := 3) (size := 1) (by decide) h' (fun W k => ?_) b hb
  obtain ⟨⟨e', k4, kl, k5, _⟩, kw⟩ := k
  obtain ⟨p', hp'⟩ : ∃ p', e'[j]? = some p' := ⟨_, List.getElem?_eq_getElem (by omega)⟩
  obtain ⟨_, _, _, _, ho'⟩ := k5 j x p' hx hp'
  have hc' := k4.cellAt (j * 5 + 3) (by omega)
  rw [(flatE_get hp').2.2.2.1] at hc'
  have e3 : W.cell? ⟨g, j * 5 + 3, none⟩ = w.cell? ⟨g, j * 5 + 3, none⟩ := World.cell?_of_block kw
  rw [e3, hc] at hc'
  rw [Option.some.inj hc']
  exact ⟨_, _, _, ho'⟩

/-! ### marks -/
def MarkedE (M : Int) (x : EI) (p : CE) (w : World) : Prop :=
  p.1 = markB M ∧ p.2.1 = markB (M + 1) ∧ p.2.2.1 = ((M + 1 + 1) % 3 == 0) ∧ p.2.2.2.2 = M + 1 + 1 + 1 + x.2.2.1.2.length ∧ MarkI p.2.2.2.1 x.2.2.1.2 (M + 1 + 1 + 1) w
/-- a slice of marks from m on -/
def MkEP (v : Value) (l : List EI) (m : Int) (w : World) : Prop :=
  ∃ e : List CE, w.ownsRow 0 35 5 v l.length (flatE e) ∧ e.length = l.length ∧ ∀ (j : Nat) x p, l[j]? = some x → e[j]? = some p → MarkedE (m + mkEL (l.take j)) x p w
theorem flatE_set {e : List CE} {k : Nat} {p : CE} (h : e[k]? = some p) (a b : ByteArray) (c : Bool) (n : Int) :
    ((((flatE e).set (k * 5) (.string a)).set (k * 5 + 1) (.string b)).set (k * 5 + 2) (.bool c)).set (k * 5 + 4) (.int .i64 n) = flatE (e.set k (a, b, c, p.2.2.2.1, n)) := by
  induction e generalizing k with
  | nil => simp at h
  | cons q e ih =>
    cases k with
    | zero =>
      obtain rfl : q = p := by simpa using h
      rfl
    | succ k =>
      have := ih (k := k) (by simpa using h)
      rw [show (k + 1) * 5 = k * 5 + 1 + 1 + 1 + 1 + 1 by omega, List.set_cons_succ]
      show _ = _ :: _ :: _ :: _ :: _ :: flatE (e.set k _)
      rw [← this]
      rfl
def MkRel (l : List EI) (e : List CE) (m : Int) (k : Nat) (f : List CE) (W : World) : Prop :=
  f.length = e.length ∧ (∀ (j : Nat) p q, e[j]? = some p → f[j]? = some q → q.2.2.2.1 = p.2.2.2.1) ∧ ∀ (j : Nat) x q, l[j]? = some x → f[j]? = some q → if j < k then MarkedE (m + mkEL (l.take j)) x q W else OwnI q.2.2.2.1 x.2.2.1.2 W
theorem mkRel_zero {l : List EI} {e : List CE} {m : Int} {w : World} (h : ∀ (j : Nat) x p, l[j]? = some x → e[j]? = some p → CellE p x w) : MkRel l e m 0 e w :=
  ⟨rfl, fun j p q hp hq => by rw [hp] at hq; cases hq; rfl, fun j x q hx hq => by rw [if_neg (Nat.not_lt_zero _)]; exact (h j x q hx hq).2.2.2.2⟩
theorem mkRel_step {l : List EI} {e f : List CE} {m z : Int} {k g : Nat} {W W' : World} {x : EI} {p : CE} (h : MkRel l e m k f W)
    (ha : ∀ (i j : Nat) p q b, e[i]? = some p → e[j]? = some q → p.2.2.2.1.ownBlock = some b → q.2.2.2.1.ownBlock = some b → i = j) (hg : ∀ (i : Nat) p b, e[i]? = some p → p.2.2.2.1.ownBlock = some b → ¬ g = b)
    (hx : l[k]? = some x) (hp : f[k]? = some p) (c : Chg (g :: p.2.2.2.1.ownBlock.toList) W W') (hz : z = m + mkEL (l.take k)) (hm : MarkI p.2.2.2.1 x.2.2.1.2 (z + 1 + 1 + 1) W') :
    MkRel l e m (k + 1) (f.set k (markB z, markB (z + 1), ((z + 1 + 1) % 3 == 0), p.2.2.2.1, z + 1 + 1 + 1 + x.2.2.1.2.length)) W' := by
  obtain ⟨h1, h2, h3⟩ := h
  have hkf := (List.getElem?_eq_some_iff.1 hp).1
  have hpe : ∀ (j : Nat) q, f[j]? = some q → ∃ p0, e[j]? = some p0 ∧ q.2.2.2.1 = p0.2.2.2.1 := fun j q hq => by
    have hj := (List.getElem?_eq_some_iff.1 hq).1
    exact ⟨_, List.getElem?_eq_getElem (by omega), h2 j _ q (List.getElem?_eq_getElem (by omega)) hq⟩
  refine ⟨by rw [List.length_set]; exact h1, fun j p0 q hp0 hq => ?_, fun j y q hy hq => ?_⟩
  · by_cases hj : k = j
    · subst hj
      rw [List.getElem?_set_self hkf] at hq
      cases hq
      exact h2 k p0 p hp0 hp
    · rw [List.getElem?_set_ne hj] at hq
      exact h2 j p0 q hp0 hq
  · by_cases hj : k = j
    · subst hj
      rw [List.getElem?_set_self hkf] at hq
      cases hq
      rw [hx] at hy
      cases hy
      rw [if_pos (Nat.lt_succ_self _)]
      subst hz
      exact ⟨rfl, rfl, rfl, rfl, hm⟩
    · rw [List.getElem?_set_ne hj] at hq
      have hthis := h3 j y q hy hq
      have hkeep : ∀ b, q.2.2.2.1.ownBlock = some b → b < W.heap.size → W'.heap[b]? = W.heap[b]? := fun b hb hlt => c.block b hlt (fun hmem => by
        obtain ⟨q0, hq0, eq0⟩ := hpe j q hq
        obtain ⟨p0, hp0, ep0⟩ := hpe k p hp
        rw [eq0] at hb
        rcases List.mem_cons.1 hmem with rfl | hmem
        · exact hg j q0 _ hq0 hb rfl
        · rw [ep0] at hmem
          exact hj (ha k j p0 q0 b hp0 hq0 (by simpa using hmem) hb))
      by_cases hjk : j < k
      · rw [if_pos hjk] at hthis
        rw [if_pos (by omega)]
        obtain ⟨a1, a2, a3, a4, a5⟩ := hthis
        exact ⟨a1, a2, a3, a4, own_stays a5 fun b hb => hkeep b hb (own_lt a5 hb).2⟩
      · rw [if_neg hjk] at hthis
        rw [if_neg (by omega)]
        exact own_stays hthis fun b hb => hkeep b hb (own_lt hthis hb).2
theorem mkRel_end {l : List EI} {e f : List CE} {m : Int} {W : World} {v : Value} (hl : e.length = l.length) (h : MkRel l e m l.length f W) (ho : W.ownsRow 0 35 5 v l.length (flatE f)) : MkEP v l m W :=
  ⟨f, ho, by rw [h.1, hl], fun j x p hx hp => by
    have := h.2.2 j x p hx hp
    rwa [if_pos (List.getElem?_eq_some_iff.1 hx).1] at this⟩
theorem MkEP.stays {v : Value} {l : List EI} {m : Int} {w w' : World} (h : MkEP v l m w) (hb : Below w.heap.size w w') : MkEP v l m w' := by
  obtain ⟨e, h1, h2, h3⟩ := h
  refine ⟨e, own_below h1 hb, h2, fun j x p hx hp => ?_⟩
  obtain ⟨a1, a2, a3, a4, a5⟩ := h3 j x p hx hp
  exact ⟨a1, a2, a3, a4, own_below a5 hb⟩
set_option maxHeartbeats 4000000 in
set_option maxRecDepth 100000 in
theorem markRateS_any (v : Value) (e : List CE) (l : List EI) (S : List Nat) (m : Int) (w : World) (hm : m + mkEL l ≤ 9223372036854775807) (hm0 : 0 ≤ m)
    (ho : w.ownsRow 0 35 5 v l.length (flatE e)) (hel : e.length = l.length) (hes : ∀ (j : Nat) x p, l[j]? = some x → e[j]? = some p → CellE p x w) (hap : ApartE v e) (hTv : ∀ b, v.ownBlock = some b → b ∈ S) (hTe : ∀ p ∈ e, ∀ b, p.2.2.2.1.ownBlock = some b → b ∈ S) :
    Calls Tryd.prog 44 #[v, .int .i64 m] w fun e' w' => e' = .returned (.int .i64 (m + mkEL l)) ∧ (∃ f, w'.ownsRow 0 35 5 v l.length (flatE f) ∧ MkRel l e m l.length f w') ∧ Chg S w w' := by
  have HEL := Lib.hid hel
  have hln := mkEL_nonneg l
  have hll : (l.length : Int) ≤ 9223372036854775807 := by have := mkEL_len l; omega
  have HR0 := Lib.hid (mkRel_zero (m := m) hes)
  have HAP := Lib.hid hap
  have HTV := Lib.hid hTv
  have HTE := Lib.hid hTe
  clear hes hel hap hTv hTe
  obtain ⟨A, c, rfl⟩ := own_lenE ho
  go_enter Tryd.func44, Tryd.ntmps44
  go_wp2
  go_loopw [1, 5] (fun a i wr => ∃ (k : Nat) (z : Int) (f : List CE), k ≤ l.length ∧ i = .int .i64 k ∧ a = .int .i64 z ∧ Hid (z = m + mkEL (l.take k)) ∧ wr.ownsRow 0 35 5 (.slice A l.length c) l.length (flatE f) ∧ Hid (MkRel l e m k f wr) ∧ Chg S w wr) (fun _ i _ => l.length - (intOf i).toNat)
  case atStart => exact ⟨0, m, e, Nat.zero_le _, rfl, rfl, Lib.hid (by rw [List.take_zero]; show _ = _ + (0 : Int); omega), ho, HR0, Chg.refl _ _⟩
  case round =>
    clear ho HR0
    obtain ⟨k, z, f, hk, rfl, rfl, HZ, ho, HRL, hc⟩ := hrel
    by_cases hlt : k < l.length
    · obtain ⟨x, hxk⟩ : ∃ x, l[k]? = some x := ⟨_, List.getElem?_eq_getElem hlt⟩
      obtain ⟨g, cap, ev, _, hgl, _⟩ := own_form ho (by omega)
      cases ev
      have hfl : f.length = l.length := HRL.out.1.trans HEL.out
      obtain ⟨p, hpk⟩ : ∃ p, f[k]? = some p := ⟨_, List.getElem?_eq_getElem (by omega)⟩
      have hxs : (flatE f).length = l.length * 5 := ho.1
      have HT := Lib.hid (mkEL_take hxk)
      have HTL := Lib.hid (mkEL_take_le l (k + 1))
      have HT0 := Lib.hid (mkEL_nonneg (l.take k))
      have hoi : OwnI p.2.2.2.1 x.2.2.1.2 wr := by
        have := HRL.out.2.2 k x p hxk hpk
        rwa [if_neg (Nat.lt_irrefl _)] at this
      obtain ⟨p0, hp0⟩ : ∃ p0, e[k]? = some p0 := ⟨_, List.getElem?_eq_getElem (by have := HEL.out; omega)⟩
      have hpp : p.2.2.2.1 = p0.2.2.2.1 := HRL.out.2.1 k p0 p hp0 hpk
      have hgp : ∀ b, p.2.2.2.1.ownBlock = some b → ¬ g = b := fun b hb he => HAP.out.2 k p0 b hp0 (hpp ▸ hb) (by rw [he]; rfl)
      have hgS : g ∈ S := HTV.out g rfl
      have hpS : ∀ b, p.2.2.2.1.ownBlock = some b → b ∈ S := fun b hb => HTE.out p0 (List.mem_of_getElem? hp0) b (hpp ▸ hb)
      have HSTEP := Lib.hid (show ∀ W', Chg (g :: p.2.2.2.1.ownBlock.toList) wr W' → MarkI p.2.2.2.1 x.2.2.1.2 (z + 1 + 1 + 1) W' → MkRel l e m (k + 1) (f.set k (markB z, markB (z + 1), ((z + 1 + 1) % 3 == 0), p.2.2.2.1, z + 1 + 1 + 1 + x.2.2.1.2.length)) W' from
        fun W' hcW hmW => mkRel_step HRL.out HAP.out.1 (fun i q b hq hb he => HAP.out.2 i q b hq hb (by rw [he]; rfl)) hxk hpk hcW HZ.out hmW)
      have HFS := Lib.hid (flatE_set hpk (markB z) (markB (z + 1)) ((z + 1 + 1) % 3 == 0) (z + 1 + 1 + 1 + x.2.2.1.2.length))
      have hx3 : (flatE f)[k * 5 + 3]? = some p.2.2.2.1 := (flatE_get hpk).2.2.2.1
      have hzb : 0 ≤ z ∧ z + 4 + x.2.2.1.2.length ≤ 9223372036854775807 ∧ z + 1 + 1 + 1 + x.2.2.1.2.length + 1 = m + mkEL (l.take (k + 1)) := by
        have h1 := HZ.out
        have h2 := HT.out
        have h3 := HTL.out
        have h4 := HT0.out
        omega
      have hz0 : 0 ≤ z := hzb.1
      have hz1 : z + 4 + x.2.2.1.2.length ≤ 9223372036854775807 := hzb.2.1
      have HZ2 := Lib.hid hzb.2.2
      have HO := Lib.hid ho
      have HC0 := Lib.hid hc
      have HX3 := Lib.hid hx3
      have HOI := Lib.hid hoi
      have HGP := Lib.hid hgp
      have HGS := Lib.hid (And.intro hgS hpS)
      have HXS := Lib.hid hxs
      have HC := Lib.hid (Chg.refl (g :: p.2.2.2.1.ownBlock.toList) wr)
      generalize p.2.2.2.1 = P at *
      generalize flatE f = xs at *
      clear hc hzb HT HTL HT0 ho hx3 hoi hgp hgS hpS HZ HRL hfl hpk hpp hxk hgl
      go_wp2_with fail
      refine (markText_any z _ (by omega)).mono ?_
      rintro e' w1 ⟨rfl, b1⟩
      have ho1 := own_below HO.out b1
      have hcell0 := ho1.cellAt (k * 5) (by omega)
      rw [List.getElem?_eq_getElem (by omega)] at hcell0
      have hfr0 := ho1.frozenAt (k * 5)
      obtain ⟨ho2, _⟩ := ho1.stored (k * 5) (.string (markB z))
      have H1 := Lib.hid ho2
      have H3 := Lib.hid (show OwnI P x.2.2.1.2 (w1.setCell ⟨g, k * 5, none⟩ (.string (markB z))) from own_stays (own_below HOI.out b1) fun i hi => by
        rw [Below.heap_setCell _ _ _ _ (Ne.symm (HGP.out i hi))])
      have HC1 := Lib.hid ((HC.out.trans (Chg.of_below b1)).setCell (p := ⟨g, k * 5, none⟩) (List.mem_cons_self ..) (.string (markB z)))
      clear ho1 ho2 HO HC HOI b1
      generalize hM : markB z = M at *
      go_wp2_with fail
      clear hcell0 hfr0
      refine (markText_any (z + 1) _ (by omega)).mono ?_
      rintro e' w2 ⟨rfl, b2⟩
      have ho3 := own_below H1.out b2
      have hcell1 := ho3.cellAt (k * 5 + 1) (by omega)
      have hcell2 := ho3.cellAt (k * 5 + 2) (by omega)
      rw [List.getElem?_eq_getElem (by rw [List.length_set]; omega)] at hcell1 hcell2
      have hcell3 := ho3.cellAt (k * 5 + 3) (by omega)
      rw [List.getElem?_set_ne (by omega), HX3.out] at hcell3
      have hfr1 := ho3.frozenAt (k * 5 + 1)
      have hfr2 := ho3.frozenAt (k * 5 + 2)
      obtain ⟨ho4, _⟩ := ho3.stored (k * 5 + 1) (.string (markB (z + 1)))
      obtain ⟨ho5, _⟩ := ho4.stored (k * 5 + 2) (.bool ((z + 1 + 1) % 3 == 0))
      have K1 := Lib.hid ho5
      have K3 := Lib.hid (show ((w2.setCell ⟨g, k * 5 + 1, none⟩ (.string (markB (z + 1)))).setCell ⟨g, k * 5 + 2, none⟩ (.bool ((z + 1 + 1) % 3 == 0))).ownsRow 0 3 1 P x.2.2.1.2.length (intsV x.2.2.1.2) from own_stays (own_below H3.out b2) fun i hi => by
        rw [Below.heap_setCell _ _ _ _ (Ne.symm (HGP.out i hi)), Below.heap_setCell _ _ _ _ (Ne.symm (HGP.out i hi))])
      have KC := Lib.hid (((HC1.out.trans (Chg.of_below b2)).setCell (p := ⟨g, k * 5 + 1, none⟩) (List.mem_cons_self ..) (.string (markB (z + 1)))).setCell (p := ⟨g, k * 5 + 2, none⟩) (List.mem_cons_self ..) (.bool ((z + 1 + 1) % 3 == 0)))
      clear ho3 ho4 ho5 H1 H3 HC1 b2
      generalize hM2 : markB (z + 1) = M2 at *
      go_wp2_with fail
      with_reducible refine (markIntS_any P x.2.2.1.2.length (intsV x.2.2.1.2) 0 (z + 1 + 1 + 1) _ (by omega) (by omega) K3.out).mono ?_
      rintro e' w3 ⟨rfl, o2, g2⟩
      clear hcell1 hcell2 hcell3 hfr1 hfr2
      have hlt2 := (own_lt K1.out (g := g) rfl).2
      have ho6 : w3.ownsRow 0 35 5 (.slice (some ⟨g, 0, none⟩) l.length c) l.length (((xs.set (k * 5) (.string M)).set (k * 5 + 1) (.string M2)).set (k * 5 + 2) (.bool ((z + 1 + 1) % 3 == 0))) := own_stays K1.out fun i hi => by
        cases hi
        exact g2.block g hlt2 (fun e => HGP.out g e.symm rfl)
      have hc2 := KC.out.trans ((Chg.of_grown g2).more (T := P.ownBlock.toList) fun i hi => List.mem_cons_of_mem _ hi)
      have hcell4 := ho6.cellAt (k * 5 + 4) (by omega)
      rw [List.getElem?_eq_getElem (by rw [List.length_set, List.length_set, List.length_set]; omega)] at hcell4
      have hfr4 := ho6.frozenAt (k * 5 + 4)
      obtain ⟨ho7, _⟩ := ho6.stored (k * 5 + 4) (.int .i64 (z + 1 + 1 + 1 + x.2.2.1.2.length))
      have HC7 := Lib.hid (hc2.setCell (p := ⟨g, k * 5 + 4, none⟩) (List.mem_cons_self ..) (.int .i64 (z + 1 + 1 + 1 + x.2.2.1.2.length)))
      have HM7 := Lib.hid (show MarkI P x.2.2.1.2 (z + 1 + 1 + 1) (w3.setCell ⟨g, k * 5 + 4, none⟩ (.int .i64 (z + 1 + 1 + 1 + x.2.2.1.2.length))) from own_stays o2 fun i hi => by
        rw [Below.heap_setCell _ _ _ _ (Ne.symm (HGP.out i hi))])
      have HR7 := Lib.hid (HSTEP.out _ HC7.out HM7.out)
      have HO7 := Lib.hid (HFS.out ▸ ho7)
      have HS7 := Lib.hid (HC0.out.trans (HC7.out.more fun i hi => by
        rcases List.mem_cons.1 hi with rfl | hi
        · exact HGS.out.1
        · exact HGS.out.2 i (by simpa using hi)))
      clear ho6 ho7 hc2 g2 o2 K1 K3 KC HSTEP HFS HC7 HM7
      go_wp2
      go_roundw
      case rel => exact ⟨k + 1, _, _, by omega, by go_num, rfl, HZ2, HO7.out, HR7, HS7.out⟩
      case measure => simp [intOf]; omega
    · obtain rfl : k = l.length := by omega
      have HV := Lib.hid (show m + mkEL l = z by
        have h3 := HZ.out
        rw [List.take_length] at h3
        omega)
      go_wp2
      go_ret
      exact ⟨ret_int HV.out.symm, ⟨f, ho, HRL.out⟩, hc⟩
/-- a cell, and the memory of old -/
def KeptC (w : World) (p : Addr) (u : Value) (W : World) : Prop := W.cell? p = some u ∧ Below w.heap.size w W
theorem KeptC.next {w W w1 : World} {p : Addr} {u : Value} (h : KeptC w p u W) (hp : p.block < w.heap.size) (hb : Below W.heap.size W w1) : KeptC w p u w1 :=
  ⟨(hb.cell (Nat.lt_of_lt_of_le hp h.2.size)).trans h.1, Below.next h.2 hb⟩
set_option maxHeartbeats 4000000 in
set_option maxRecDepth 100000 in
theorem heldRateS_any (v : Value) (l : List EI) (m : Int) (w : World) (hm : m + mkEL l ≤ 9223372036854775807) (hm0 : 0 ≤ m) (h : MkEP v l m w) :
    Calls Tryd.prog 46 #[v, .int .i64 m] w (Postn (m + mkEL l) w) := by
  obtain ⟨e, ho, hel, hes⟩ := h
  have HO := Lib.hid (show ∀ W, Below w.heap.size w W → W.ownsRow 0 35 5 v l.length (flatE e) from fun W hb => own_below ho hb)
  have HES := Lib.hid hes
  have HEL := Lib.hid hel
  have hln := mkEL_nonneg l
  have hll : (l.length : Int) ≤ 9223372036854775807 := by have := mkEL_len l; omega
  obtain ⟨A, c, rfl⟩ := own_lenE ho
  clear ho hel hes
  go_enter Tryd.func46, Tryd.ntmps46
  go_wp2
  go_loopw [1, 5] (fun a i wr => ∃ (k : Nat) (z : Int), k ≤ l.length ∧ i = .int .i64 k ∧ a = .int .i64 z ∧ Hid (z = m + mkEL (l.take k)) ∧ Below w.heap.size w wr) (fun _ i _ => l.length - (intOf i).toNat)
  case atStart => exact ⟨0, m, Nat.zero_le _, rfl, rfl, Lib.hid (by rw [List.take_zero]; show _ = _ + (0 : Int); omega), Below.refl _ _⟩
  case round =>
    obtain ⟨k, z, hk, rfl, rfl, HZ, hb⟩ := hrel
    by_cases hlt : k < l.length
    · obtain ⟨x, hxk⟩ : ∃ x, l[k]? = some x := ⟨_, List.getElem?_eq_getElem hlt⟩
      have how := HO.out w (Below.refl _ _)
      obtain ⟨g, cap, ev, _, hgl, _⟩ := own_form how (by omega)
      cases ev
      obtain ⟨p, hpk⟩ : ∃ p, e[k]? = some p := ⟨_, List.getElem?_eq_getElem (by have := HEL.out; omega)⟩
      obtain ⟨q0, q1, q2, q4, qm⟩ := HES.out k x p hxk hpk
      rw [← HZ.out] at q0 q1 q2 q4 qm
      have HT := Lib.hid (mkEL_take hxk)
      have HTL := Lib.hid (mkEL_take_le l (k + 1))
      have HT0 := Lib.hid (mkEL_nonneg (l.take k))
      have hf := flatE_get hpk
      rw [q0, q1, q2, q4] at hf
      have hzb : 0 ≤ z ∧ z + 4 + x.2.2.1.2.length ≤ 9223372036854775807 ∧ z + 1 + 1 + 1 + x.2.2.1.2.length + 1 = m + mkEL (l.take (k + 1)) := by
        have h1 := HZ.out
        have h2 := HT.out
        have h3 := HTL.out
        have h4 := HT0.out
        omega
      have hz0 : 0 ≤ z := hzb.1
      have hz1 : z + 4 + x.2.2.1.2.length ≤ 9223372036854775807 := hzb.2.1
      have HZ2 := Lib.hid hzb.2.2
      have HCC := Lib.hid (show ∀ W, Below w.heap.size w W → W.cell? ⟨g, k * 5, none⟩ = some (.string (markB z)) ∧ W.cell? ⟨g, k * 5 + 1, none⟩ = some (.string (markB (z + 1))) ∧ W.cell? ⟨g, k * 5 + 2, none⟩ = some (.bool ((z + 1 + 1) % 3 == 0)) ∧ W.cell? ⟨g, k * 5 + 3, none⟩ = some p.2.2.2.1 ∧ W.cell? ⟨g, k * 5 + 4, none⟩ = some (.int .i64 (z + 1 + 1 + 1 + x.2.2.1.2.length)) from fun W hW =>
        ⟨((HO.out W hW).cellAt (k * 5) (by omega)).trans hf.1, ((HO.out W hW).cellAt (k * 5 + 1) (by omega)).trans hf.2.1, ((HO.out W hW).cellAt (k * 5 + 2) (by omega)).trans hf.2.2.1, ((HO.out W hW).cellAt (k * 5 + 3) (by omega)).trans hf.2.2.2.1, ((HO.out W hW).cellAt (k * 5 + 4) (by omega)).trans hf.2.2.2.2⟩)
      have HQM := Lib.hid (show ∀ W, Below w.heap.size w W → W.ownsRow 0 3 1 p.2.2.2.1 x.2.2.1.2.length (marksI (z + 1 + 1 + 1) x.2.2.1.2.length) from fun W hW => own_below qm hW)
      obtain ⟨Ap, cp, ep⟩ := own_len qm
      generalize p.2.2.2.1 = P at *
      subst ep
      have c0 := (HCC.out _ hb).1
      clear hf hzb HT HTL HT0 HZ q0 q1 q2 q4 qm how hxk hpk
      go_wp2
      go_region_held3 (fun W => W.cell? ⟨g, k * 5, none⟩ = some (Value.string (markB z)) ∧ Below w.heap.size w W) (first | exact ⟨by go_keep, hb.drew⟩ | exact KeptC.next ‹_ ∧ _› hgl b1)
        (first | (go_at_call 64; refine (markText_any _ _ (by omega)).mono ?_; rintro e' w1 ⟨rfl, b1⟩))
      have bb1 := Below.next hb.drew b1
      have c1 := (HCC.out _ bb1).2.1
      clear c0
      generalize markB z = M at *
      go_wp2
      go_region_held3 (fun W => W.cell? ⟨g, k * 5 + 1, none⟩ = some (Value.string (markB (z + 1))) ∧ Below w.heap.size w W) (first | exact ⟨by go_keep, bb1.drew⟩ | exact KeptC.next ‹_ ∧ _› hgl b2)
        (first | (go_at_call 64; refine (markText_any _ _ (by omega)).mono ?_; rintro e' w2 ⟨rfl, b2⟩))
      have bb2 := Below.next bb1.drew b2
      have c2 := (HCC.out _ bb2).2.2.1
      have c3 := (HCC.out _ bb2).2.2.2.1
      clear c1
      generalize markB (z + 1) = M2 at *
      go_wp2_with fail
      with_reducible refine (heldIntS_any _ x.2.2.1.2.length 0 _ (z + 1 + 1 + 1) _ (by omega) (by omega) (Row.of_own (HQM.out _ bb2))).mono ?_
      rintro e' w3 ⟨rfl, rfl⟩
      have c4 := (HCC.out _ bb2).2.2.2.2
      clear c2 c3
      have hn : decide (z + 1 + 1 + 1 + (x.2.2.1.2.length : Int) < 0) = false := decide_eq_false (by omega)
      go_wp2
      go_roundw
      case rel => exact ⟨k + 1, _, by omega, by go_num, rfl, HZ2, bb2⟩
      case measure => simp [intOf]; omega
    · obtain rfl : k = l.length := by omega
      have HV := Lib.hid (show m + mkEL l = z by
        have h3 := HZ.out
        rw [List.take_length] at h3
        omega)
      go_wp2
      go_ret
      exact ⟨ret_int HV.out.symm, hb⟩
end Go.Proofs.YtbpfabicampdkaaDoor

namespace Go.Proofs.YtbpfabicampdkaaDoor
open Go.RowKit

instance decEqT : DecidableEq TI := fun x y => @instDecidableEqProd _ _ inferInstance (fun _ _ => inferInstance) x y
theorem ownEL_at {v : Value} {l : List EI} {lo hi : Nat} {w : World} (h : OwnEL v l lo hi w) : At (rangeE lo hi) (OwnEL v l lo hi) w := by
  have hh := h
  obtain ⟨g, e, rfl, h1, h2, h3, h4, h5⟩ := hh
  refine ⟨h, fun i hi => by have := rangeE_mem hi; omega, fun w' hk => ?_⟩
  have hz : hi ≤ w'.heap.size := by
    have hm := hk (hi - 1) (mem_rangeE (by omega) (by omega))
    rw [Array.getElem?_eq_getElem (show hi - 1 < w.heap.size by omega)] at hm
    have := (Array.getElem?_eq_some_iff.1 hm).1
    omega
  exact ⟨g, e, rfl, h1, h2, hz, own_stays h4 fun i hi => by cases hi; exact hk g (mem_rangeE h1 h2), h5.stays fun i hi hi2 => hk i (mem_rangeE (by omega) hi2)⟩
/-- a value that stands for it, its list of the call's own -/
def OwnT (v : Value) (q : TI) (w : World) : Prop := ∃ u, v = .agg #[.string q.1, u] ∧ OwnEP u q.2 w
/-- a value that reads as it -/
def RdT (w : World) (v : Value) (q : TI) : Prop := ∃ u, v = .agg #[.string q.1, u] ∧ RdEL w u q.2
theorem OwnT.rd {v : Value} {q : TI} {w : World} (h : OwnT v q w) : RdT w v q := by
  obtain ⟨u, rfl, o⟩ := h
  exact ⟨u, rfl, o.ownR.rd⟩
theorem OwnT.below {w W : World} {v : Value} {q : TI} (h : OwnT v q w) (hb : Below w.heap.size w W) : OwnT v q W := by
  obtain ⟨u, rfl, o⟩ := h
  exact ⟨u, rfl, o.below hb⟩
theorem RdT.below {w W : World} {v : Value} {q : TI} (h : RdT w v q) (hb : Below w.heap.size w W) : RdT W v q := by
  obtain ⟨u, rfl, o⟩ := h
  exact ⟨u, rfl, o.below hb⟩
def szT (q : TI) : Int := q.1.size + (q.2.length + szEL q.2)
def mkT (q : TI) : Int := mkEL q.2
def capT (q : TI) : Prop := q.1.size ≤ 9223372036854775807 ∧ q.2.length ≤ 9223372036854775807 ∧ ∀ x ∈ q.2, capE x
theorem szT_nonneg (q : TI) : 0 ≤ szT q := by have := szEL_nonneg q.2; unfold szT; omega
theorem szT_mem {q : TI} (h : szT q ≤ 1048576) : q.2.length ≤ 1048576 ∧ ∀ x ∈ q.2, szE x ≤ 1048576 := by
  have h0 := szEL_nonneg q.2
  unfold szT at h
  exact ⟨by omega, fun x hx => by have := szEL_mem hx; omega⟩
theorem capT_of {q : TI} (h : szT q ≤ 1048576) : capT q := by
  obtain ⟨h1, h2⟩ := szT_mem h
  have h0 := szEL_nonneg q.2
  refine ⟨?_, by omega, fun x hx => capE_of (h2 x hx)⟩
  unfold szT at h
  omega
theorem rdT_form {v : Value} {q : TI} {w : World} (h : RdT w v q) : ∃ A c, v = .agg #[.string q.1, .slice A q.2.length c] := by
  obtain ⟨u, rfl, o⟩ := h
  obtain ⟨A, c, rfl, _⟩ := o
  exact ⟨A, c, rfl⟩
theorem ownT_form {v : Value} {q : TI} {w : World} (h : OwnT v q w) : ∃ A c, v = .agg #[.string q.1, .slice A q.2.length c] := rdT_form h.rd
theorem ownT_open {u c : Value} {q : TI} {w : World} (h : OwnT (.agg #[c, u]) q w) : OwnEP u q.2 w := by
  obtain ⟨u', e, hu⟩ := h
  injection e with e
  simp at e
  obtain ⟨_, e2⟩ := e
  subst e2
  exact hu
theorem rdT_open {u c : Value} {q : TI} {w : World} (h : RdT w (.agg #[c, u]) q) : RdEL w u q.2 := by
  obtain ⟨u', e, hu⟩ := h
  injection e with e
  simp at e
  obtain ⟨_, e2⟩ := e
  subst e2
  exact hu
theorem mkEL_le (l : List EI) : mkEL l ≤ 4 * (l.length + szEL l) := by
  induction l with
  | nil => exact Int.le_refl _
  | cons x l ih =>
    show 4 + (x.2.2.1.2.length : Int) + mkEL l ≤ 4 * (((l.length + 1 : Nat) : Int) + (szE x + szEL l))
    have : (x.2.2.1.2.length : Int) ≤ szE x := by unfold szE szD szS szI; omega
    have h0 := szE_nonneg x
    omega
theorem mkT_range (q : TI) : 0 ≤ mkT q ∧ mkT q ≤ 4 * szT q := by
  have h1 := mkEL_nonneg q.2
  have h2 := mkEL_le q.2
  unfold mkT szT
  omega
/-- so few that a walk over two of them stays in range -/
def capTS (q : TI) : Prop := capT q ∧ q.2.length ≤ 1099511627776
theorem capTS_of {q : TI} (h : szT q ≤ 1048576) : capTS q := ⟨capT_of h, by have := (szT_mem h).1; omega⟩
set_option maxHeartbeats 1000000 in
set_option maxRecDepth 100000 in
theorem szT_cal (v : Value) (x : TI) (left : Int) (w : World) (hl : capT x) (h0 : 0 ≤ left) (h1 : left ≤ 1048576) (h : RdT w v x) : Calls Tryd.prog 12 #[v, .int .i64 left] w (Postn (leftI left (szT x)) w) := by
  obtain ⟨A, c, rfl⟩ := rdT_form h
  have hb := below_al (Below.refl w.heap.size w) (.cells #[.string x.1, .slice A x.2.length c] 41)
  have kx := box_new w #[.string x.1, .slice A x.2.length c] 41
  have kx_c0 := kx.here.cell 0 _ rfl
  have kx_c1 := kx.here.cell 1 _ rfl
  obtain ⟨hl1, hl2, hl3⟩ := hl
  have hd0 := szEL_nonneg x.2
  have HSD := Lib.hid (fun (z : Int) (hz0 : 0 ≤ z) (hz1 : z ≤ 1048576) => szRateS_any (.slice A x.2.length c) x.2 z _ (by omega) hl3 hz0 hz1 ((rdT_open h).below hb))
  clear h hl3
  by_cases hs : left - x.1.size < 0
  · have HV := Lib.hid (show leftI left (szT x) = -1 by unfold leftI szT; rw [if_pos (by omega)])
    have hw : IntKind.i64.wrap (left - (x.1.size : Int)) = left - x.1.size := IntWalk.i64_in _ (by omega)
    have hneg : decide (left - (x.1.size : Int) < 0) = true := decide_eq_true hs
    clear hs kx HSD
    go_enter Tryd.func12, Tryd.ntmps12
    go_wp2
    go_ret
    exact ⟨ret_int HV.out.symm, hb⟩
  · obtain ⟨z0, hz0⟩ : ∃ z0 : Int, left - x.1.size = z0 := ⟨_, rfl⟩
    have hw : IntKind.i64.wrap (left - (x.1.size : Int)) = z0 := by rw [IntWalk.i64_in _ (by omega)]; exact hz0
    have hneg0 : decide (z0 < 0) = false := decide_eq_false (by omega)
    have HZ := Lib.hid (show 0 ≤ z0 ∧ z0 ≤ 1048576 by omega)
    have HLL := Lib.hid (show leftI left (szT x) = leftI z0 (x.2.length + szEL x.2) by unfold leftI szT; rw [show left - ((x.1.size : Int) + (x.2.length + szEL x.2)) = z0 - (x.2.length + szEL x.2) by omega])
    clear hs hz0
    go_enter Tryd.func12, Tryd.ntmps12
    go_wp2_with fail
    clear kx_c0 kx_c1 kx
    refine (HSD.out z0 HZ.out.1 HZ.out.2).mono ?_
    rintro e w1 ⟨rfl, b1⟩
    have bb1 := Lib.hid (Below.next hb b1)
    have hq : leftI z0 (x.2.length + szEL x.2) < 0 ∧ leftI z0 (x.2.length + szEL x.2) = -1 ∨ ¬ leftI z0 (x.2.length + szEL x.2) < 0 := by unfold leftI; split <;> omega
    generalize leftI z0 (x.2.length + szEL x.2) = z at *
    clear hb b1 HZ HSD
    rcases hq with ⟨h2, h3⟩ | h2
    · have hneg : decide (z < 0) = true := decide_eq_true h2
      have H3 := Lib.hid h3
      clear h2 h3
      go_wp2
      go_ret
      exact ⟨ret_int (H3.out.symm.trans HLL.out.symm), bb1.out⟩
    · have hneg : decide (z < 0) = false := decide_eq_false h2
      clear h2
      go_wp2
      go_ret
      exact ⟨ret_int HLL.out.symm, bb1.out⟩
set_option maxHeartbeats 1000000 in
set_option maxRecDepth 100000 in
theorem eqT_cal (u v : Value) (x y : TI) (w : World) (hz : capTS x) (hu : RdT w u x) (hv : RdT w v y) : Calls Tryd.prog 16 #[u, v] w (Postb (decide (x = y)) w) := by
  obtain ⟨Ap, cp, rfl⟩ := rdT_form hu
  obtain ⟨Aq, cq, rfl⟩ := rdT_form hv
  have hb : Below w.heap.size w ((w.alloc (.cells #[.string x.1, .slice Ap x.2.length cp] 46)).alloc (.cells #[.string y.1, .slice Aq y.2.length cq] 46)) := below_al (below_al (Below.refl _ _) _) _
  have kx := (box_new w #[.string x.1, .slice Ap x.2.length cp] 46).below (below_al (Below.refl _ _) (.cells #[.string y.1, .slice Aq y.2.length cq] 46))
  have ky := box_new (w.alloc (.cells #[.string x.1, .slice Ap x.2.length cp] 46)) #[.string y.1, .slice Aq y.2.length cq] 46
  rw [show (w.alloc (.cells #[.string x.1, .slice Ap x.2.length cp] 46)).heap.size = w.heap.size + 1 by simp] at ky
  have kx_c0 := kx.here.cell 0 _ rfl
  have kx_c1 := kx.here.cell 1 _ rfl
  have ky_c0 := ky.here.cell 0 _ rfl
  have ky_c1 := ky.here.cell 1 _ rfl
  have HE := Lib.hid (eqRateS_any (.slice Ap x.2.length cp) (.slice Aq y.2.length cq) x.2 y.2 _ (by have := hz.2; omega) hz.1.2.2 ((rdT_open hu).below hb) ((rdT_open hv).below hb))
  have HB := Lib.hid hb
  clear kx ky hb hu hv hz
  by_cases h1 : x.1 = y.1
  · have HV := Lib.hid (show decide (x = y) = decide (x.2 = y.2) from decide_eq_decide.2 ⟨fun e => by rw [e], fun e => Prod.ext h1 e⟩)
    rw [← h1] at ky_c0 HE HB
    have H1 := Lib.hid h1
    clear h1
    go_enter Tryd.func16, Tryd.ntmps16
    rw [← H1.out]
    go_wp2_with fail
    refine HE.out.mono ?_
    rintro e w1 ⟨rfl, b1⟩
    have bb1 := Lib.hid (Below.next HB.out b1)
    clear kx_c0 kx_c1 ky_c0 ky_c1 b1
    by_cases h3 : x.2 = y.2
    · rw [decide_eq_true h3] at HV ⊢
      clear h3
      go_wp2
      go_ret
      exact ⟨ret_bool HV.out.symm, bb1.out⟩
    · rw [decide_eq_false h3] at HV ⊢
      clear h3
      go_wp2
      go_ret
      exact ⟨ret_bool HV.out.symm, bb1.out⟩
  · have hne := bytes_neC h1
    have hne2 : (x.1.toList != y.1.toList) = true := by rw [bne, hne]; rfl
    have HV := Lib.hid (show decide (x = y) = false from decide_eq_false (fun e => h1 (by rw [e])))
    clear h1 HE
    go_enter Tryd.func16, Tryd.ntmps16
    go_wp2
    go_ret
    exact ⟨ret_bool HV.out.symm, HB.out⟩
theorem newEL_at {l : List EI} {w w' : World} {e : Ending} (h : NewEL l w e w') : ∃ v S, e = .returned v ∧ At S (OwnEP v l) w' ∧ Within S w.heap.size w'.heap.size ∧ Below w.heap.size w w' ∧ ∃ A c, v = .slice A l.length c := by
  obtain ⟨v, rfl, o, b⟩ := h
  refine ⟨v, _, rfl, (ownEL_at o).imp fun _ k => k.own, fun i hi => rangeE_mem hi, b, ?_⟩
  obtain ⟨g, e, rfl, _⟩ := o
  exact ⟨_, _, rfl⟩
set_option maxHeartbeats 2000000 in
set_option maxRecDepth 100000 in
theorem toT_new (v : Value) (x : TI) (w : World) (hz : szT x ≤ 1048576) (h : RdT w v x) : Calls Tryd.prog 14 #[v] w (NewV (fun u => OwnT u x) w) := by
  obtain ⟨hl, hx⟩ := szT_mem hz
  obtain ⟨A, c, rfl⟩ := rdT_form h
  have h3 := alloc3 w (.cells #[.string x.1, .slice A x.2.length c] 41) (.cells #[.string ⟨#[]⟩, .slice none 0 0] 46) (.cells #[.string x.1, .slice none 0 0] 46)
  have hb3 := below3 w (.cells #[.string x.1, .slice A x.2.length c] 41) (.cells #[.string ⟨#[]⟩, .slice none 0 0] 46) (.cells #[.string x.1, .slice none 0 0] 46)
  obtain ⟨W0, hW0⟩ : ∃ W0, W0 = (((w.alloc (.cells #[.string x.1, .slice A x.2.length c] 41)).alloc (.cells #[.string ⟨#[]⟩, .slice none 0 0] 46)).alloc (.cells #[.string x.1, .slice none 0 0] 46)) := ⟨_, rfl⟩
  rw [← hW0] at h3 hb3
  have kb : At [w.heap.size] (BoxAt w.heap.size #[.string x.1, .slice A x.2.length c] 41) W0 := box_at h3.1
  have kr : At [w.heap.size + 1] (BoxAt (w.heap.size + 1) #[.string ⟨#[]⟩, .slice none 0 0] 46) W0 := box_at h3.2.1
  have ko : At [w.heap.size + 1 + 1] (BoxAt (w.heap.size + 1 + 1) #[.string x.1, .slice none 0 0] 46) W0 := box_at h3.2.2.1
  have hz0 : W0.heap.size = w.heap.size + 3 := h3.2.2.2
  have HW := Lib.hid hW0
  clear h3 hW0
  have kb_c0 := kb.here.cell 0 _ rfl
  have kb_c1 := kb.here.cell 1 _ rfl
  go_enter Tryd.func14, Tryd.ntmps14
  go_wp2_with fail
  rw [← HW.out]
  refine (toRateS_any (.slice A x.2.length c) x.2 _ hl hx ((rdT_open h).below hb3)).mono ?_
  intro e w1 hnew
  obtain ⟨u, Su, rfl, o1, l1, b1, Au, cu, rfl⟩ := newEL_at hnew
  clear hnew
  have bb1 := Below.next hb3 b1
  replace kb := kb.below b1
  replace kr := kr.below b1
  replace ko := ko.below b1
  have HR := Lib.hid (newV_chgM (φ := fun u => OwnT u x) (v := .agg #[.string x.1, .slice Au x.2.length cu]) (T := [w.heap.size + 1, w.heap.size + 1 + 1]) (o1.imp fun _ h => (⟨_, rfl, h⟩ : OwnT _ x _)) (fun i hi hm => by have := (l1 i hi).1; simp at hm; omega) (fun i hi => by simp at hi; omega) (fun i hi => by have := (l1 i hi).1; omega) bb1)
  have ko_c0 := ko.here.cell 0 _ rfl
  have ko_c1 := ko.here.cell 1 _ rfl
  have ko_f0 := Lib.frozen_of_heap ko.here 0
  have ko_f1 := Lib.frozen_of_heap ko.here 1
  have kr_c0 := kr.here.cell 0 _ rfl
  have kr_c1 := kr.here.cell 1 _ rfl
  have kr_f0 := Lib.frozen_of_heap kr.here 0
  have kr_f1 := Lib.frozen_of_heap kr.here 1
  clear kb kr ko o1 b1 bb1 h kb_c0 kb_c1
  go_wp2
  refine bodyPost_ret (v := .agg #[.string x.1, .slice Au x.2.length cu]) (by simp [results, Tryd.results14, go_sem, kr_c0, kr_c1]) rfl ?_
  refine HR.out _ ?_
  repeat (first | with_reducible exact Chg.refl _ _ | with_reducible refine Chg.setCell ?_ (by simp) _)
end Go.Proofs.YtbpfabicampdkaaDoor

namespace Go.Proofs.YtbpfabicampdkaaDoor
open Go.ChangeShapes Go.WideShapes Go.ChangeAt Go.RowKit Go.Joins

theorem Tryd.cellsRate : Tryd.prog.cellsOf 28 = 5 := by kernel_rfl
/-- five cells that read as a rate -/
theorem rate_cells {H : Type} {enc : TypeId × Value → H} {W : World} {fuel : Nat} {c0 c1 c2 c3 c4 : Value} {y : DataW H × List MemPlace}
    (hf : DataW.trod enc Tryd.prog W 0 (fun _ => true) true fuel 28 [c0, c1, c2, c3, c4] = some y) :
    ∃ x : EI, ∃ u, c0 = .string x.1 ∧ c1 = .string x.2.1 ∧ c2 = .bool x.2.2.1.1 ∧ c3 = u ∧ c4 = .int .i64 x.2.2.2 ∧ Row W 0 W.heap.size u (intsV x.2.2.1.2) ∧ x.1.size ≤ maxLen ∧ x.2.1.size ≤ maxLen ∧ x.2.2.1.2.length ≤ maxLen := by
  obtain ⟨y0, y1, y2, n, hx, _, h0, h1, h2⟩ := Go.Deep.trod_struct3 Tryd.underlying28 hf
  have kd : Tryd.prog.cellsOf 26 = 3 := by kernel_rfl
  have ks : Tryd.prog.cellsOf 24 = 2 := Tryd.cellsSigned
  have ki : Tryd.prog.cellsOf 22 = 1 := by kernel_rfl
  have kn : Tryd.prog.cellsOf 3 = 1 := Tryd.cellsInt1
  have kt : Tryd.prog.cellsOf 9 = 1 := by kernel_rfl
  have kb : Tryd.prog.cellsOf 4 = 1 := by kernel_rfl
  simp only [kd, kt, List.drop_zero, List.take_succ_cons, List.take_zero, List.drop_succ_cons] at h0 h1 h2
  obtain ⟨z0, z1, m, _, _, g0, g1⟩ := trod_struct2 Tryd.underlying26 h2
  simp only [ks, kn, List.drop_zero, List.take_succ_cons, List.take_zero, List.drop_succ_cons] at g0 g1
  obtain ⟨q0, q1, m2, _, _, k0, k1⟩ := trod_struct2 Tryd.underlying24 g0
  simp only [kb, ki, List.drop_zero, List.take_succ_cons, List.take_zero, List.drop_succ_cons] at k0 k1
  obtain ⟨s0, e0, _, hs0⟩ := DataW.trod_string Tryd.underlying9 h0
  obtain ⟨s1, e1, _, hs1⟩ := DataW.trod_string Tryd.underlying9 h1
  obtain ⟨b, e2, _⟩ := DataW.trod_bool Tryd.underlying4 k0
  obtain ⟨a1, l1, cc1, e3⟩ := slice_form Tryd.underlying22 k1
  obtain ⟨k, e4, _, _⟩ := DataW.trod_int Tryd.underlying3 g1
  simp at e0 e1 e2 e3 e4
  subst e0 e1 e2 e3 e4
  obtain ⟨xs, hr, hl⟩ := cell_ints Tryd.underlying22 Tryd.underlying3 Tryd.cellsInt1 k1
  exact ⟨(s0, s1, (b, xs), k), _, rfl, rfl, rfl, rfl, rfl, hr, hs0, hs1, hl⟩
theorem array5 {α : Type} {a : Array α} (h : a.size = 5) : ∃ x0 x1 x2 x3 x4, a = #[x0, x1, x2, x3, x4] := by
  obtain ⟨l⟩ := a
  match l, h with
  | [x0, x1, x2, x3, x4], _ => exact ⟨x0, x1, x2, x3, x4, rfl⟩
set_option maxHeartbeats 400000 in
set_option maxRecDepth 100000 in
theorem arg_rate {H : Type} {enc : TypeId × Value → H} {W : World} {base : Nat} {v : Value} {d : DataW H} {p : List MemPlace}
    (hv : Value.okWide Tryd.prog W .any base 28 v) (h : DataW.Trod enc Tryd.prog W 0 (fun _ => true) true 28 v d p) : ∃ x : EI, RdE W v x ∧ x.1.size ≤ maxLen ∧ x.2.1.size ≤ maxLen ∧ x.2.2.1.2.length ≤ maxLen := by
  obtain ⟨cs, rfl, hsz⟩ := okWide_struct Tryd.underlying28 hv
  obtain ⟨c0, c1, c2, c3, c4, rfl⟩ := array5 (hsz.trans Tryd.cellsRate)
  obtain ⟨fuel, hf⟩ := h
  obtain ⟨x, u, rfl, rfl, rfl, rfl, rfl, hr, h1, h2, h3⟩ := rate_cells (by simpa [Value.cells] using hf)
  exact ⟨x, ⟨_, rfl, hr⟩, h1, h2, h3⟩
theorem cells_five {w : World} {base : Nat} {a : Addr} {cs : List Value} (h : w.cells? base a 5 = some cs) : ∃ c0 c1 c2 c3 c4, cs = [c0, c1, c2, c3, c4] ∧ w.cell? a = some c0 ∧ w.cell? ⟨a.block, a.off + 1, none⟩ = some c1 ∧ w.cell? ⟨a.block, a.off + 2, none⟩ = some c2 ∧ w.cell? ⟨a.block, a.off + 3, none⟩ = some c3 ∧ w.cell? ⟨a.block, a.off + 4, none⟩ = some c4 := by
  unfold World.cells? at h
  split at h
  · rw [show List.range 5 = [0, 1, 2, 3, 4] from rfl] at h
    simp only [List.mapM_cons, List.mapM_nil, Option.bind_eq_bind, Option.pure_def, Option.bind_eq_some_iff, Option.some.injEq] at h
    obtain ⟨c0, h0, r, ⟨c1, h1, r2, ⟨c2, h2, r3, ⟨c3, h3, r4, ⟨c4, h4, s, rfl, rfl⟩, rfl⟩, rfl⟩, rfl⟩, rfl⟩ := h
    exact ⟨c0, c1, c2, c3, c4, rfl, by simpa [Addr.add] using h0, by simpa [Addr.add] using h1, by simpa [Addr.add] using h2, by simpa [Addr.add] using h3, by simpa [Addr.add] using h4⟩
  · cases h
/-- what an element of a list reads as -/
def EachE (W : World) (a : Addr) (i : Nat) (x : EI) : Prop := ∃ u, a.block < W.heap.size ∧ W.cell? (a.add (i * 5)) = some (.string x.1) ∧ W.cell? ⟨(a.add (i * 5)).block, (a.add (i * 5)).off + 1, none⟩ = some (.string x.2.1) ∧ W.cell? ⟨(a.add (i * 5)).block, (a.add (i * 5)).off + 2, none⟩ = some (.bool x.2.2.1.1) ∧ W.cell? ⟨(a.add (i * 5)).block, (a.add (i * 5)).off + 3, none⟩ = some u ∧ W.cell? ⟨(a.add (i * 5)).block, (a.add (i * 5)).off + 4, none⟩ = some (.int .i64 x.2.2.2) ∧ Row W 0 W.heap.size u (intsV x.2.2.1.2) ∧ capE x
set_option maxHeartbeats 400000 in
set_option maxRecDepth 100000 in
theorem cell_rates {H : Type} {enc : TypeId × Value → H} {W : World} {fuel : Nat} {a0 : Option Addr} {len0 cap0 : Nat} {y : DataW H × List MemPlace}
    (hf : DataW.trod enc Tryd.prog W 0 (fun _ => true) true fuel 39 [.slice a0 len0 cap0] = some y) : ∃ l : List EI, RdEL W (.slice a0 len0 cap0) l ∧ l.length ≤ maxLen ∧ ∀ x ∈ l, capE x := by
  rcases DataW.trod_slice Tryd.underlying39 hf with ⟨hcs, _⟩ | ⟨a, len, cap, elems, rest, n, _, hcs, _, _, hl, hm, hel, hcell, _, _⟩
  · have hcs' : Value.slice a0 len0 cap0 = .slice none 0 0 := by simpa [Value.cells] using hcs
    cases hcs'
    exact ⟨[], ⟨_, _, rfl, fun j x hj => by simp at hj⟩, by simp, fun x hx => by cases hx⟩
  · have hcs' : Value.slice a0 len0 cap0 = .slice (some a) len cap := by simpa [Value.cells] using hcs
    obtain ⟨rfl, rfl, rfl⟩ : a0 = some a ∧ len = len0 ∧ cap = cap0 := by cases hcs'; exact ⟨rfl, rfl, rfl⟩
    have each : ∀ i, i < len → ∃ x : EI, EachE W a i x := by
      intro i hi
      have hc := hcell i hi
      rw [Tryd.cellsRate, List.getElem?_eq_getElem (by omega), Option.bind_eq_some_iff] at hc
      obtain ⟨cs, hcs, hd⟩ := hc
      obtain ⟨c0, c1, c2, c3, c4, rfl, h0, h1, h2, h3, h4⟩ := cells_five hcs
      obtain ⟨x, u, rfl, rfl, rfl, rfl, rfl, hr, hs, hs2, hxl⟩ := rate_cells hd
      exact ⟨x, _, by have := cell_lt h0; rwa [block_add] at this, h0, h1, h2, h3, h4, hr, by unfold maxLen at hs hs2 hxl; unfold capE; omega⟩
    obtain ⟨f, hF⟩ : ∃ f : Nat → EI, ∀ i, i < len → EachE W a i (f i) := by
      refine ⟨fun i => if h : i < len then Classical.choose (each i h) else (⟨#[]⟩, ⟨#[]⟩, (false, []), 0), fun i hi => ?_⟩
      simp only [dif_pos hi]
      exact Classical.choose_spec (each i hi)
    have hlen : ((List.range len).map f).length = len := by simp
    refine ⟨(List.range len).map f, ⟨some a, cap, by rw [hlen], fun j x hj => ?_⟩, by rw [hlen]; omega, fun x hx => ?_⟩
    · have hjl : j < len := by rw [← hlen]; exact (List.getElem?_eq_some_iff.1 hj).1
      have hx : x = f j := by
        rw [List.getElem?_map, List.getElem?_range hjl] at hj
        simpa using hj.symm
      subst hx
      obtain ⟨u, h1, h2, h3, h4, h5, h6, h7, _⟩ := hF j hjl
      exact ⟨a, u, rfl, h1, h2, h3, h4, h5, h6, h7⟩
    · obtain ⟨i, hi, rfl⟩ := List.mem_map.1 hx
      obtain ⟨_, _, _, _, _, _, _, _, h5⟩ := hF i (by simpa using hi)
      exact h5
theorem Tryd.cellsRates : Tryd.prog.cellsOf 41 = 2 := by kernel_rfl
set_option maxHeartbeats 400000 in
set_option maxRecDepth 100000 in
theorem arg_rates {H : Type} {enc : TypeId × Value → H} {W : World} {base : Nat} {v : Value} {d : DataW H} {p : List MemPlace}
    (hv : Value.okWide Tryd.prog W .any base 41 v) (h : DataW.Trod enc Tryd.prog W 0 (fun _ => true) true 41 v d p) : ∃ x : TI, RdT W v x ∧ capT x := by
  obtain ⟨cs, rfl, hsz⟩ := okWide_struct Tryd.underlying41 hv
  obtain ⟨c0, c1, rfl⟩ := array2 (hsz.trans Tryd.cellsRates)
  obtain ⟨fuel, hf⟩ := h
  obtain ⟨y0, y1, n, hx, _, h0, h1⟩ := trod_struct2 Tryd.underlying41 hf
  have kt : Tryd.prog.cellsOf 9 = 1 := by kernel_rfl
  have kl : Tryd.prog.cellsOf 39 = 1 := by kernel_rfl
  simp only [Value.cells, kt, kl, List.drop_zero, List.take_succ_cons, List.take_zero, List.drop_succ_cons] at h0 h1
  obtain ⟨s, e0, _, hs⟩ := DataW.trod_string Tryd.underlying9 h0
  obtain ⟨a1, l1, cc1, e1⟩ := slice_form Tryd.underlying39 h1
  simp at e0 e1
  subst e0 e1
  obtain ⟨l, hr, hl, hx⟩ := cell_rates h1
  exact ⟨(s, l), ⟨_, rfl, hr⟩, by unfold maxLen at hs; exact hs, by unfold maxLen at hl; exact hl, hx⟩
end Go.Proofs.YtbpfabicampdkaaDoor

namespace Go.Proofs.YtbpfabicampdkaaDoor
open Go.RowKit

set_option maxHeartbeats 4000000 in
set_option maxRecDepth 100000 in
theorem lawRatesOk_walk (va : Value) (a : TI) (R0 : Bool) (w : World)
    (hS : ∀ (ua : Value) (W : World), OwnT ua a W → Calls Tryd.prog 13 #[ua] W (Postb R0 W))
    (hI : ∀ (ua : Value) (W : World), OwnT ua a W → CurTab W → Calls Tryd.prog 15 #[ua] W (Postb R0 W))
    (ht0 : CurTab w) (hl : szT a ≤ 1048576) (ra : RdT w va a) :
    Calls Tryd.prog 4 #[va] w fun e w' => e = .returned (.bool true) ∧ Below w.heap.size w w' := by
  have HS := Lib.hid hS
  have HI := Lib.hid hI
  clear hS hI
  have HT0 := Lib.hid ht0
  clear ht0
  have hsa := szT_nonneg a
  have hma := mkT_range a
  have hza : szT a ≤ 1048576 := by omega
  obtain ⟨Aa, ca, rfl⟩ := rdT_form ra
  have bb0 : Below w.heap.size w (w.alloc (.cells #[.string a.1, .slice Aa a.2.length ca] 41)) := below_al (Below.refl _ _) _
  have ka := (box_new w #[.string a.1, .slice Aa a.2.length ca] 41)
  have RFa : Hid (∀ W, Below w.heap.size w W → RdT W (.agg #[.string a.1, .slice Aa a.2.length ca]) a) := Lib.hid fun W hb => ra.below hb
  go_enter Tryd.func4, Tryd.ntmps4
  have ka_c0 := ka.here.cell 0 _ rfl
  have ka_c1 := ka.here.cell 1 _ rfl
  go_wp2_with fail
  clear ka_c0 ka_c1
  refine (szT_cal _ a (1048576) _ (capT_of hza) (by omega) (by omega) (RFa.out _ bb0)).mono ?_
  rintro e w1 ⟨rfl, b1⟩
  rw [leftI_of (by omega)]
  have bb1 := Below.next bb0 b1
  replace ka := ka.below b1
  have hn : decide (((1048576 : Int) - szT a : Int) < 0) = false := decide_eq_false (by omega)
  have HKa := Lib.hid (ka.lt (w.heap.size) (by simp))
  have ka_c0 := ka.here.cell 0 _ rfl
  have ka_c1 := ka.here.cell 1 _ rfl
  go_wp2_with fail
  clear ka_c0 ka_c1
  refine (toT_new _ a _ hza (RFa.out _ bb1)).mono ?_
  rintro e w2 ⟨t, St, rfl, ot, lt, b2⟩
  have bb2 := Below.next bb1 b2
  replace ka := ka.below b2
  go_wp2_with fail
  refine (HS.out _ _ ot.here).mono ?_
  rintro e w3 ⟨rfl, b3⟩
  clear ot lt
  have bb3 := Below.next bb2 b3
  replace ka := ka.below b3
  have ka_c0 := ka.here.cell 0 _ rfl
  have ka_c1 := ka.here.cell 1 _ rfl
  go_upto_region 6 with fail
  go_cut [5] (fun s wx => NewLocV 46 (fun v => OwnT v a) w3 s wx)
  case first =>
    go_wp2_with fail
    refine (toT_new _ a _ hza (RFa.out _ bb3)).mono ?_
    rintro e wt ⟨ut, St, rfl, ot, lt, bt⟩
    obtain ⟨At, ct, rfl⟩ := ownT_form ot.here
    go_wp2_with fail
    go_meet
    exact newLocV_last ot lt (Nat.le_refl _) bt
  rename World => w4
  clear ka_c0 ka_c1
  obtain ⟨gxa, csxa, Sxa, rfl, kxa, oxa, nxa, lxa, b4⟩ := hcut
  obtain ⟨Axa, cxa, exa⟩ := ownT_form oxa.here
  injection exa with exa
  subst exa
  have bb4 := Below.next bb3 b4
  replace ka := ka.below b4
  have kxa_c0 := kxa.here.cell 0 _ rfl
  have kxa_c1 := kxa.here.cell 1 _ rfl
  go_wp2_with fail
  clear kxa_c0 kxa_c1
  refine (HI.out _ _ oxa.here (HT0.out.below bb4)).mono ?_
  rintro e w5 ⟨rfl, b5⟩
  have bb5 := Below.next bb4 b5
  replace ka := ka.below b5
  replace kxa := kxa.below b5
  replace oxa := oxa.below b5
  have ka_c0 := ka.here.cell 0 _ rfl
  have ka_c1 := ka.here.cell 1 _ rfl
  have kxa_c0 := kxa.here.cell 0 _ rfl
  have kxa_c1 := kxa.here.cell 1 _ rfl
  go_wp2_with fail
  have HB0 := Lib.hid (show Below w5.heap.size w5 w5.drew from (Below.refl _ _).drew)
  have KL := Lib.hid (show ∀ W, Below w5.heap.size w5 W → W.cell? ⟨w.heap.size, 0, none⟩ = some (.string a.1) ∧ W.cell? ⟨w.heap.size, 1, none⟩ = some (.slice Aa a.2.length ca) ∧ W.cell? ⟨gxa, 0, none⟩ = some (.string a.1) ∧ W.cell? ⟨gxa, 1, none⟩ = some (.slice Axa a.2.length cxa) ∧ Hid (Below w5.heap.size w5 W) from
    fun W hb => ⟨(ka.below hb).here.cell 0 _ rfl, (ka.below hb).here.cell 1 _ rfl, (kxa.below hb).here.cell 0 _ rfl, (kxa.below hb).here.cell 1 _ rfl, Lib.hid hb⟩)
  have BBF := Lib.hid (show ∀ W, Below w5.heap.size w5 W → Below w.heap.size w W from fun W hb => Below.next bb5 hb)
  have OXF := Lib.hid (show ∀ W, Below w5.heap.size w5 W → OwnT (.agg #[.string a.1, .slice Axa a.2.length cxa]) a W from fun W hb => (oxa.below hb).here)
  clear ka_c0 ka_c1 kxa_c0 kxa_c1
  go_region_held3 (fun W => W.cell? ⟨w.heap.size, 0, none⟩ = some (.string a.1) ∧ W.cell? ⟨w.heap.size, 1, none⟩ = some (.slice Aa a.2.length ca) ∧ W.cell? ⟨gxa, 0, none⟩ = some (.string a.1) ∧ W.cell? ⟨gxa, 1, none⟩ = some (.slice Axa a.2.length cxa) ∧ Hid (Below w5.heap.size w5 W))
    ((refine KL.out _ ?_; (first | exact HBe.out | exact HBt.out | exact HB0.out | fail)))
    (first
      | (go_at_call 14; (have hBB := (‹_ ∧ _ ∧ _ ∧ _ ∧ Hid (Below w5.heap.size w5 _)›).2.2.2.2); (with_reducible refine (toT_new _ a _ hza (RFa.out _ (BBF.out _ hBB.out))).mono ?_); rintro e wt ⟨t, St, rfl, ot, lt, bt⟩; have HBt := Lib.hid (Below.next hBB.out bt); clear hBB)
      | (go_at_call 16; (have hBB := (‹_ ∧ _ ∧ _ ∧ _ ∧ Hid (Below w5.heap.size w5 _)›).2.2.2.2); (with_reducible refine (eqT_cal _ _ a a _ (capTS_of hza) (OwnT.rd (OXF.out _ hBB.out)) (OwnT.rd ot.here)).mono ?_); rintro e w6 ⟨rfl, be⟩; rw [decide_refl]; have HBe := Lib.hid (Below.next hBB.out be); clear hBB))
  have b6 := HBe.out
  have bb6 := Below.next bb5 b6
  replace ka := ka.below b6
  replace kxa := kxa.below b6
  replace oxa := oxa.below b6
  clear HB0 KL BBF OXF HBt HBe ot lt
  go_wp2
  go_ret
  exact ⟨rfl, bb6⟩
end Go.Proofs.YtbpfabicampdkaaDoor

namespace Go.Proofs.YtbpfabicampdkaaDoor
open Go.RowKit

set_option maxHeartbeats 2000000 in
set_option maxRecDepth 100000 in
theorem l10At_any (v : Value) (l : List EI) (p q : ByteArray) (w : World) (hl : l.length ≤ 140737488355328) (h : OwnER w v l) :
    Calls Tryd.prog 34 #[v, .string p, .string q] w (Postn (posE l p q) w) := by
  obtain ⟨A, c, rfl, hc⟩ := h
  have HC := Lib.hid hc
  clear hc
  go_enter Tryd.func34, Tryd.ntmps34
  go_wp2
  go_loopw [11] (fun i wr => ∃ k : Nat, k ≤ l.length ∧ i = .int .i64 k ∧ Hid (k ≤ atE l p q) ∧ Below w.heap.size w wr) (fun i _ => l.length - (intOf i).toNat)
  case atStart => exact ⟨0, Nat.zero_le _, rfl, Lib.hid (Nat.zero_le _), Below.refl _ _⟩
  case round =>
    obtain ⟨k, hk, rfl, HK, hb⟩ := hrel
    by_cases hlt : k < l.length
    · obtain ⟨x, hxk⟩ : ∃ x, l[k]? = some x := ⟨_, List.getElem?_eq_getElem hlt⟩
      obtain ⟨a, u, rfl, ha, hc0, hc1, hc2, hc3, hc4, hr⟩ := HC.out k x hxk
      obtain ⟨A1, c1, rfl⟩ := own_len hr
      have k0 := (cell_keep5' hb ha k).trans hc0
      have k1 := (cell_keep5 hb ha k 1).trans hc1
      have k2 := (cell_keep5 hb ha k 2).trans hc2
      have k3 := (cell_keep5 hb ha k 3).trans hc3
      have k4 := (cell_keep5 hb ha k 4).trans hc4
      have hbx := below_al (Below.refl wr.heap.size wr) (.cells #[.string x.1, .string x.2.1, .bool x.2.2.1.1, .slice A1 x.2.2.1.2.length c1, .int .i64 x.2.2.2] 35)
      have kx := box_new wr #[.string x.1, .string x.2.1, .bool x.2.2.1.1, .slice A1 x.2.2.1.2.length c1, .int .i64 x.2.2.2] 35
      have cx0 := kx.here.cell 0 _ rfl
      have cx1 := kx.here.cell 1 _ rfl
      have HB := Lib.hid (Below.next hb hbx)
      clear kx hbx hb hc0 hc1 hc2 hc3 hc4 hr
      by_cases h1 : x.1 = p
      · by_cases h2 : x.2.1 = q
        · have HV := Lib.hid (posE_hit HK.out hxk ⟨h1, h2⟩)
          have e1 : (x.1.toList == p.toList) = true := by rw [h1]; exact beq_self_eq_true _
          have e2 : (x.2.1.toList == q.toList) = true := by rw [h2]; exact beq_self_eq_true _
          clear h1 h2 hxk
          go_wp2
          go_ret
          exact ⟨ret_int HV.out.symm, HB.out⟩
        · have HN := Lib.hid (atE_next HK.out hxk (fun e => h2 e.2))
          have e1 : (x.1.toList == p.toList) = true := by rw [h1]; exact beq_self_eq_true _
          have e2 := bytes_neC h2
          clear h1 h2 hxk
          go_wp2
          go_roundw
          case rel => exact ⟨k + 1, by omega, by go_num, HN, HB.out⟩
          case measure => simp [intOf]; omega
      · have HN := Lib.hid (atE_next HK.out hxk (fun e => h1 e.1))
        have e1 := bytes_neC h1
        clear h1 hxk
        go_wp2
        go_roundw
        case rel => exact ⟨k + 1, by omega, by go_num, HN, HB.out⟩
        case measure => simp [intOf]; omega
    · obtain rfl : k = l.length := by omega
      have HV := Lib.hid (posE_none HK.out)
      go_wp2
      go_ret
      exact ⟨ret_int HV.out.symm, hb⟩
/-- a table that reads so, its list's limbs of the call's own -/
def OwnTR (w : World) (v : Value) (t : TI) : Prop := ∃ u, v = .agg #[.string t.1, u] ∧ OwnER w u t.2
theorem OwnT.ownR {v : Value} {t : TI} {w : World} (h : OwnT v t w) : OwnTR w v t := by
  obtain ⟨u, rfl, o⟩ := h
  exact ⟨u, rfl, o.ownR⟩
theorem OwnTR.below {w w' : World} {v : Value} {t : TI} (h : OwnTR w v t) (hb : Below w.heap.size w w') : OwnTR w' v t := by
  obtain ⟨u, rfl, o⟩ := h
  exact ⟨u, rfl, o.below hb⟩
theorem ownTR_form {v : Value} {t : TI} {w : World} (h : OwnTR w v t) : ∃ A c, v = .agg #[.string t.1, .slice A t.2.length c] ∧ OwnER w (.slice A t.2.length c) t.2 := by
  obtain ⟨u, rfl, o⟩ := h
  obtain ⟨A, c, rfl, hc⟩ := o
  exact ⟨A, c, rfl, A, c, rfl, hc⟩
set_option maxHeartbeats 4000000 in
set_option maxRecDepth 100000 in
theorem specRatesOk_any (v : Value) (t : TI) (w : World) (hl : t.2.length ≤ 1099511627776) (hx : ∀ x ∈ t.2, x.2.2.1.2.length ≤ 1048576) (h : OwnTR w v t) :
    Calls Tryd.prog 13 #[v] w (Postb (okT t) w) := by
  obtain ⟨A, c, rfl, hr⟩ := ownTR_form h
  have HR := Lib.hid hr
  clear h hr
  have bb0 : Below w.heap.size w (w.alloc (.cells #[.string t.1, .slice A t.2.length c] 46)) := below_al (Below.refl _ _) _
  have kt := box_new w #[.string t.1, .slice A t.2.length c] 46
  go_enter Tryd.func13, Tryd.ntmps13
  have kt_c0 := kt.here.cell 0 _ rfl
  have kt_c1 := kt.here.cell 1 _ rfl
  go_wp2_with fail
  clear kt_c0 kt_c1
  refine (specCurKnown_any t.1 _).mono ?_
  rintro e w1 ⟨rfl, b1⟩
  have bb1 := Below.next bb0 b1
  replace kt := kt.below b1
  by_cases ok0 : knownC t.1 = true
  · rw [ok0]
    have HO0 := Lib.hid ok0
    clear ok0
    by_cases hn : t.2.length ≤ 12
    · have hn1 : ¬ (12 : Int) < (t.2.length : Int) := by omega
      have HN := Lib.hid hn
      have HREL := Lib.hid (show ∃ k : Nat, k ≤ t.2.length ∧ Value.int .i64 0 = .int .i64 k ∧ Hid ((List.range k).all (rowT t.2) = true) ∧ At [w.heap.size] (BoxAt w.heap.size #[.string t.1, .slice A t.2.length c] 46) w1 ∧ Below w.heap.size w w1 from ⟨0, Nat.zero_le _, rfl, Lib.hid rfl, kt, bb1⟩)
      have kt_c0 := kt.here.cell 0 _ rfl
      have kt_c1 := kt.here.cell 1 _ rfl
      clear kt bb0 bb1 b1 hn
      go_wp2
      clear kt_c0 kt_c1
      go_loopw [18] (fun i wr => ∃ k : Nat, k ≤ t.2.length ∧ i = .int .i64 k ∧ Hid ((List.range k).all (rowT t.2) = true) ∧ At [w.heap.size] (BoxAt w.heap.size #[.string t.1, .slice A t.2.length c] 46) wr ∧ Below w.heap.size w wr) (fun i _ => t.2.length - (intOf i).toNat)
      case atStart => exact HREL.out
      case round =>
        clear HREL
        obtain ⟨k, hk, rfl, HK, kt, hb⟩ := hrel
        by_cases hlt : k < t.2.length
        · obtain ⟨x, hxk⟩ : ∃ x, t.2[k]? = some x := ⟨_, List.getElem?_eq_getElem hlt⟩
          have hrb := HR.out.below hb
          obtain ⟨A', c', e', hc'⟩ := hrb
          obtain ⟨a, u, ea, ha, hc0, hc1, hc2, hc3, hc4, hr⟩ := hc' k x hxk
          have e0 : A = A' := by injection e' with e1 e2 e3
          subst e0
          subst ea
          obtain ⟨A1, c1, rfl⟩ := own_len hr
          have hxl := hx x (List.mem_of_getElem? hxk)
          have HRX := Lib.hid (rowT_at hxk)
          have hbx := below_al (Below.refl wr.heap.size wr) (.cells #[.string x.1, .string x.2.1, .bool x.2.2.1.1, .slice A1 x.2.2.1.2.length c1, .int .i64 x.2.2.2] 35)
          have kx := box_new wr #[.string x.1, .string x.2.1, .bool x.2.2.1.1, .slice A1 x.2.2.1.2.length c1, .int .i64 x.2.2.2] 35
          have OX := Lib.hid (show ∀ W, Below (wr.alloc (.cells #[.string x.1, .string x.2.1, .bool x.2.2.1.1, .slice A1 x.2.2.1.2.length c1, .int .i64 x.2.2.2] 35)).heap.size (wr.alloc (.cells #[.string x.1, .string x.2.1, .bool x.2.2.1.1, .slice A1 x.2.2.1.2.length c1, .int .i64 x.2.2.2] 35)) W → OwnE (.agg #[.string x.1, .string x.2.1, .bool x.2.2.1.1, .slice A1 x.2.2.1.2.length c1, .int .i64 x.2.2.2]) x W from fun W h => OwnE.mk (own_below (own_below hr hbx) h))
          have bb := Below.next hb hbx
          have HRB := Lib.hid (show ∀ W, Below w.heap.size w W → OwnER W (.slice (some a) t.2.length c) t.2 from fun W h => HR.out.below h)
          replace kt := kt.below hbx
          have cx0 := kx.here.cell 0 _ rfl
          have cx1 := kx.here.cell 1 _ rfl
          have cx2 := kx.here.cell 2 _ rfl
          have cx3 := kx.here.cell 3 _ rfl
          have cx4 := kx.here.cell 4 _ rfl
          clear hb hbx hr hc' e' ha
          have hlt' := hlt
          go_wp2_with fail
          clear cx0 cx1 cx2 cx3 cx4 hc0 hc1 hc2 hc3 hc4
          refine (specRateOk_any _ x _ hxl (OX.out _ (Below.refl _ _))).mono ?_
          rintro e w2 ⟨rfl, b2⟩
          have bb2 := Below.next bb b2
          replace kx := kx.below b2
          replace kt := kt.below b2
          by_cases okx : okE x = true
          · rw [okx]
            have HOX := Lib.hid okx
            have cx0 := kx.here.cell 0 _ rfl
            have cx1 := kx.here.cell 1 _ rfl
            have kt_c0 := kt.here.cell 0 _ rfl
            have kt_c1 := kt.here.cell 1 _ rfl
            have HB2 := Lib.hid bb2
            clear okx b2 bb bb2 kx
            go_wp2_with fail
            clear cx0 cx1 kt_c0 kt_c1
            refine (l10At_any _ t.2 x.1 x.2.1 _ (by omega) (HRB.out _ HB2.out)).mono ?_
            rintro e w3 ⟨rfl, b3⟩
            have bb3 := Lib.hid (Below.next HB2.out b3)
            have KT := Lib.hid (kt.below b3)
            clear kt b3
            by_cases hp : posE t.2 x.1 x.2.1 = k
            · have HNX := Lib.hid (rows_next HK.out (by rw [HRX.out, HOX.out, decide_eq_true hp]; rfl))
              rw [hp]
              clear hp
              go_wp2
              go_roundw
              case rel => exact ⟨k + 1, by omega, by go_num, HNX, KT.out, bb3.out⟩
              case measure => simp [intOf]; omega
            · have HV := Lib.hid (show okT t = false by rw [okT_rows, rows_bad hlt (by rw [HRX.out, decide_eq_false hp, Bool.and_false]; simp), Bool.and_false, Bool.and_false])
              have hne : (posE t.2 x.1 x.2.1 != (k : Int)) = true := by simpa using hp
              clear hp HRX
              generalize posE t.2 x.1 x.2.1 = z at *
              go_wp2
              go_ret
              exact ⟨ret_bool HV.out.symm, bb3.out⟩
          · have okx' : okE x = false := by simpa using okx
            have HV := Lib.hid (show okT t = false by rw [okT_rows, rows_bad hlt (by rw [HRX.out, okx', Bool.false_and]; simp), Bool.and_false, Bool.and_false])
            rw [okx']
            clear okx okx' kx kt b2 bb
            go_wp2
            go_ret
            exact ⟨ret_bool HV.out.symm, bb2⟩
        · obtain rfl : k = t.2.length := by omega
          have HV := Lib.hid (show okT t = true by rw [okT_rows, HO0.out, decide_eq_true HN.out, HK.out]; rfl)
          go_wp2
          go_ret
          exact ⟨ret_bool HV.out.symm, hb⟩
    · have hn1 : (12 : Int) < (t.2.length : Int) := by omega
      have HV := Lib.hid (show okT t = false by rw [okT_rows, decide_eq_false hn, Bool.false_and, Bool.and_false])
      have kt_c0 := kt.here.cell 0 _ rfl
      have kt_c1 := kt.here.cell 1 _ rfl
      clear kt bb0 b1 hn
      go_wp2
      go_ret
      exact ⟨ret_bool HV.out.symm, bb1⟩
  · have ok0' : knownC t.1 = false := by simpa using ok0
    have HV := Lib.hid (show okT t = false by rw [okT_rows, ok0', Bool.false_and])
    rw [ok0']
    clear ok0 ok0' kt
    go_wp2
    go_ret
    exact ⟨ret_bool HV.out.symm, bb1⟩
end Go.Proofs.YtbpfabicampdkaaDoor

namespace Go.Proofs.YtbpfabicampdkaaDoor
open Go.RowKit

/-- how many rates of the list have this pair -/
def cntE (l : List EI) (a b : ByteArray) : Nat := l.countP fun r => decide (r.1 = a) && decide (r.2.1 = b)
def differE (l : List EI) : Bool := l.all fun r => decide (cntE l r.1 r.2.1 ≤ 1)
theorem countP_two {α : Type} {p : α → Bool} {l : List α} {i j : Nat} {x y : α} (h : i < j) (hx : l[i]? = some x) (hy : l[j]? = some y) (px : p x = true) (py : p y = true) : 2 ≤ l.countP p := by
  induction l generalizing i j with
  | nil => simp at hx
  | cons z l ih =>
    obtain ⟨j, rfl⟩ : ∃ k, j = k + 1 := ⟨j - 1, by omega⟩
    have hy' : l[j]? = some y := by simpa using hy
    rw [List.countP_cons]
    cases i with
    | zero =>
      obtain rfl : z = x := by simpa using hx
      have : 0 < l.countP p := List.countP_pos_iff.2 ⟨y, List.mem_of_getElem? hy', py⟩
      rw [if_pos px]
      omega
    | succ i =>
      have := ih (i := i) (j := j) (by omega) (by simpa using hx) hy'
      omega
theorem two_countP {α : Type} {p : α → Bool} {l : List α} (h : 2 ≤ l.countP p) : ∃ (i j : Nat) (x y : α), i < j ∧ l[i]? = some x ∧ l[j]? = some y ∧ p x = true ∧ p y = true := by
  induction l with
  | nil => simp at h
  | cons z l ih =>
    rw [List.countP_cons] at h
    by_cases hz : p z = true
    · rw [if_pos hz] at h
      obtain ⟨y, hy, py⟩ := List.countP_pos_iff.1 (show 0 < l.countP p by omega)
      obtain ⟨j, hj⟩ := List.mem_iff_getElem?.1 hy
      exact ⟨0, j + 1, z, y, by omega, rfl, by simpa using hj, hz, py⟩
    · rw [if_neg hz] at h
      obtain ⟨i, j, x, y, h1, h2, h3, h4, h5⟩ := ih (by omega)
      exact ⟨i + 1, j + 1, x, y, by omega, by simpa using h2, by simpa using h3, h4, h5⟩
theorem pair_is {r : EI} {a b : ByteArray} : ((decide (r.1 = a) && decide (r.2.1 = b)) = true) ↔ (r.1 = a ∧ r.2.1 = b) := by simp
theorem atE_le {l : List EI} {i : Nat} {x : EI} {a b : ByteArray} (hx : l[i]? = some x) (hp : x.1 = a ∧ x.2.1 = b) : atE l a b ≤ i := by
  rcases Nat.lt_or_ge i (atE l a b) with h | h
  · exfalso
    have := List.not_of_lt_findIdx (xs := l) (p := fun r => decide (r.1 = a) && decide (r.2.1 = b)) h
    rw [(List.getElem?_eq_some_iff.1 hx).2] at this
    simp at this
    exact this hp.1 hp.2
  · exact h
theorem atE_has {l : List EI} {a b : ByteArray} (h : atE l a b < l.length) : ∃ x, l[atE l a b]? = some x ∧ x.1 = a ∧ x.2.1 = b := by
  refine ⟨_, List.getElem?_eq_getElem h, ?_⟩
  have := List.findIdx_getElem (xs := l) (p := fun r : EI => decide (r.1 = a) && decide (r.2.1 = b)) (w := h)
  exact pair_is.1 this
theorem posE_self {l : List EI} {i : Nat} {x : EI} (hx : l[i]? = some x) (h : atE l x.1 x.2.1 = i) : posE l x.1 x.2.1 = i := by
  unfold posE
  rw [if_pos (by rw [h]; exact (List.getElem?_eq_some_iff.1 hx).1), h]
theorem rows_differ (l : List EI) : (List.range l.length).all (rowT l) = (l.all okE && differE l) := by
  rw [Bool.eq_iff_iff, Bool.and_eq_true, List.all_eq_true, List.all_eq_true]
  unfold differE
  rw [List.all_eq_true]
  constructor
  · intro h
    have hr : ∀ (i : Nat) x, l[i]? = some x → okE x = true ∧ posE l x.1 x.2.1 = i := fun i x hx => by
      have := h i (List.mem_range.2 (List.getElem?_eq_some_iff.1 hx).1)
      rw [rowT_at hx, Bool.and_eq_true, decide_eq_true_eq] at this
      exact this
    refine ⟨fun x hx => ?_, fun x hx => ?_⟩
    · obtain ⟨i, hi⟩ := List.mem_iff_getElem?.1 hx
      exact (hr i x hi).1
    · rw [decide_eq_true_eq]
      rcases Nat.lt_or_ge 1 (cntE l x.1 x.2.1) with hc | hc
      · exfalso
        obtain ⟨i, j, y, z, hij, hy, hz, py, pz⟩ := two_countP (show 2 ≤ l.countP _ from hc)
        have py := pair_is.1 py
        have pz := pair_is.1 pz
        have h1 := (hr j z hz).2
        rw [pz.1, pz.2] at h1
        have h2 := atE_le hy py
        unfold posE at h1
        split at h1 <;> omega
      · exact hc
  · rintro ⟨h1, h2⟩ i hi
    have hil := List.mem_range.1 hi
    have hx : l[i]? = some l[i] := List.getElem?_eq_getElem hil
    rw [rowT_at hx, h1 _ (List.getElem_mem hil), Bool.true_and, decide_eq_true_eq]
    refine posE_self hx ?_
    have hle := atE_le hx ⟨rfl, rfl⟩
    rcases Nat.lt_or_eq_of_le hle with hlt | he
    · exfalso
      obtain ⟨y, hy, py⟩ := atE_has (show atE l l[i].1 l[i].2.1 < l.length by omega)
      have := countP_two (p := fun r : EI => decide (r.1 = l[i].1) && decide (r.2.1 = l[i].2.1)) hlt hy hx (pair_is.2 py) (pair_is.2 ⟨rfl, rfl⟩)
      have h3 := h2 _ (List.getElem_mem hil)
      rw [decide_eq_true_eq] at h3
      unfold cntE at h3
      omega
    · exact he
theorem okT_pairs (t : TI) : okT t = (knownC t.1 && (decide (t.2.length ≤ 12) && (t.2.all okE && differE t.2))) := by rw [okT_rows, rows_differ]
theorem cntE_nil (a b : ByteArray) : cntE [] a b = 0 := rfl
theorem cntE_take {l : List EI} {k : Nat} {x : EI} (h : l[k]? = some x) (a b : ByteArray) : cntE (l.take (k + 1)) a b = cntE (l.take k) a b + if x.1 = a ∧ x.2.1 = b then 1 else 0 := by
  have hj := (List.getElem?_eq_some_iff.1 h).1
  unfold cntE
  rw [List.take_succ_eq_append_getElem hj, List.countP_append, (List.getElem?_eq_some_iff.1 h).2, List.countP_singleton]
  simp only [pair_is]
theorem cntE_le (l : List EI) (a b : ByteArray) : cntE l a b ≤ l.length := List.countP_le_length
theorem all_okE_bad {l : List EI} {x : EI} (h : x ∈ l) (hx : ¬ okE x = true) : l.all okE = false := by
  rw [Bool.eq_false_iff]
  intro ha
  exact hx (List.all_eq_true.1 ha x h)
end Go.Proofs.YtbpfabicampdkaaDoor

namespace Go.Proofs.YtbpfabicampdkaaDoor
open Go.RowKit
open Go.ChangeMaps (setBlock heap_setBlock_same)
open Go.Maps (Keyed)

section
variable {H : Type} {P : Program} {k e t : TypeId} {R : Value → Option (DataW H × List MemPlace)} {w : World} {b n : Nat} {D : DataW H}
/-- behind the making of a place the map reads there as it did -/
theorem entry_world (K : WideMaps.KeyLaw P k) (ht : P.underlying t = some (.map k e)) {z : Value} (hz : ∀ u : World, (zeroValue e).run P u = .ok z u) (h : w.ownsMap P k R b n D) (hn : n < maxLen) {key : Value} {kl : Lit} (hkey : keyOf P k key = some kl) {zd : DataW H} {ps : List MemPlace} (hzd : R z = some (zd, ps))
    {v : Value} {W2 : World} (hrun : (Instr.mapEntry t (.map (some b)) key).run P w = .ok v W2) : ∃ D2, W2.ownsMap P k R b (n + 1) D2 ∧ D2.atKey kl zd = D.atKey kl zd := by
  have h0 := h
  have KK := Keyed.of_law K
  obtain ⟨es, clock, hb, F, hs, rfl⟩ := h
  rcases K.find w hkey es.toList F.keys with ⟨h1, h2⟩ | ⟨j, e0, h1, h2, h3⟩
  · obtain ⟨w', hup, hown, _⟩ := h0.update KK ht hn hkey hzd
    have e : W2 = w' := by
      simp [Instr.mapEntry, run_underlying ht, MapKept.run_getObj_map hb, K.check w false hkey, h1, hz, MapKept.run_setObj_map _ hb, Result.andThen] at hrun
      simp [Instr.mapUpdate, run_underlying ht, MapKept.run_getObj_map hb, K.check w false hkey, h1, MapKept.run_setObj_map _ hb, Result.andThen] at hup
      rw [← hrun.2, ← hup]
    subst e
    refine ⟨_, hown, ?_⟩
    rw [Maps.atKey_put_same ⟨_, rfl⟩ (KK.key hkey), WideElems.atKey_none K F hkey h2]
  · have hj : es[j]? = some e0 := by simpa using h2
    have hsame : es.modify j (fun e => { e with key := key }) = es := by
      apply Array.ext
      · simp
      · intro i i1 i2
        rw [Array.getElem_modify]
        split
        · rename_i hij
          subst hij
          have hj0 : es[j] = e0 := (Array.getElem?_eq_some_iff.1 hj).2
          rw [hj0, ← h3]
        · rfl
    simp [Instr.mapEntry, run_underlying ht, MapKept.run_getObj_map hb, K.check w false hkey, h1, hj, h3, K.stays w hkey, hsame, MapKept.run_setObj_map _ hb, Result.andThen] at hrun
    rw [← hrun.2]
    exact ⟨_, ⟨es, clock, heap_setBlock_same hb _, F, by omega, rfl⟩, rfl⟩
/-- one step of 'm[k]++' -/
theorem count_step (K : WideMaps.KeyLaw P k) (ht : P.underlying t = some (.map k e)) (he : P.underlying e = some (.int .i64)) (hz : ∀ u : World, (zeroValue e).run P u = .ok (.int .i64 0) u) (h : w.ownsMap P k (plainElem P e) b n D) (hn : n < maxLen) {key : Value} {kl : Lit} (hkey : keyOf P k key = some kl)
    {c : Int} (hc : D.atKey kl (.lit (.int .i64 0)) = .lit (.int .i64 c)) (hc0 : 0 ≤ c) (hc1 : c ≤ 1048576) :
    ∃ (v0 : Value) (st : Nat) (W2 W3 : World), (Instr.lookup t (.map (some b)) key false).run P w = .ok (.int .i64 c) w ∧ (Instr.lookup t (.map (some b)) key false).run P W2 = .ok (.int .i64 c) W2 ∧ (Instr.mapEntry t (.map (some b)) key).run P w = .ok (.tuple #[v0, .int .i64 st]) W2 ∧
      (Instr.entryStore t (.map (some b)) (.int .i64 st) (.int .i64 (c + 1))).run P W2 = .ok () W3 ∧ W3.ownsMap P k (plainElem P e) b (n + 1) (D.put kl (.lit (.int .i64 (c + 1)))) ∧ w.grownBy W3 (some b) := by
  have KK := Keyed.of_law K
  have wf0 : (Lit.int .i64 0).wf = true := by decide
  have wf1 : (Lit.int .i64 (c + 1)).wf = true := by simp [Lit.wf, IntKind.min, IntKind.max, IntKind.signed, IntKind.bits]; omega
  obtain ⟨c1, hl, hat, _⟩ := h.lookup_int KK ht he (hz w) hkey
  obtain rfl : c1 = c := by
    rw [hc] at hat
    injection hat with e1
    injection e1 with _ e1
    exact e1.symm
  have h' := h
  obtain ⟨es, clock, hb, F, hs, _⟩ := h'
  obtain ⟨v0, st, es1, clock1, hent, _, hst⟩ := WideElems.entry_then_store K ht hz hb F hkey
  obtain ⟨D2, h2, hat2⟩ := entry_world K ht hz h hn hkey (plainElem_int he wf0) hent
  obtain ⟨c2, hl2, hat2', _⟩ := h2.lookup_int KK ht he (hz _) hkey
  obtain rfl : c2 = c1 := by
    rw [hat2, hc] at hat2'
    injection hat2' with e1
    injection e1 with _ e1
    exact e1.symm
  obtain ⟨es', clock', hs', hup⟩ := hst _ (.int .i64 (c2 + 1)) (heap_setBlock_same hb _)
  obtain ⟨w', hup', hown, hgr⟩ := h.update KK ht hn hkey (plainElem_int he wf1)
  rw [hup] at hup'
  have ew : setBlock (setBlock w b (.map es1 clock1)) b (.map es' clock') = w' := by
    injection hup' with _ e1
    rw [← e1]
    simp [setBlock]
  refine ⟨v0, st, _, _, hl, hl2, hent, hs', ?_, ?_⟩
  · rw [ew]; exact hown
  · rw [ew]; exact hgr
end
/-! ### pairs as keys -/
theorem pairLaid : laidOutB Tryd.prog = true := by kernel_rfl
theorem pairRow : (72 : TypeId) < Tryd.prog.types.size := of_decide_eq_true (by kernel_rfl)
theorem pairWide : (match Tryd.prog.underlying 72 with | some (.array _ _) | some (.struct _) => true | _ => false) = true := by kernel_rfl
set_option maxRecDepth 100000 in
theorem pairLaw : WideMaps.KeyLaw Tryd.prog 72 := deep_law_laid pairLaid (m := 2) (by omega) pairRow (by kernel_rfl) pairWide
def pairV (a b : ByteArray) : Value := .agg #[.string a, .string b]
theorem pair_key (a b : ByteArray) (ha : a.size ≤ maxLen) (hb : b.size ≤ maxLen) : ∃ kl, keyOf Tryd.prog 72 (pairV a b) = some kl := by
  have hk : Tryd.prog.keyType 72 = true := by kernel_rfl
  have hc : Tryd.prog.cellsOf 72 = 2 := by kernel_rfl
  have hs : Tryd.prog.cellsOf 9 = 1 := by kernel_rfl
  have hf : (pairV a b).formed Tryd.prog 72 = true := by simp [pairV, Value.formed, Tryd.underlying72, hc]
  obtain ⟨n, hn⟩ : ∃ n, Tryd.prog.types.size = n + 1 := Nat.exists_eq_succ_of_ne_zero (Nat.ne_of_gt (Nat.lt_of_le_of_lt (Nat.zero_le _) pairRow))
  have hl : ∃ ls, Tryd.prog.keyLits (Tryd.prog.types.size + 1) 72 (pairV a b).cells.toList = some ls := by
    rw [hn]
    simp [Program.keyLits, Tryd.underlying72, Tryd.underlying9, pairV, Value.cells, hc, hs, ha, hb]
  obtain ⟨ls, hl⟩ := hl
  refine ⟨.string (keyBytes ls), ?_⟩
  unfold keyOf
  rw [Tryd.underlying72]
  dsimp only
  rw [hk, hf, hl]
  rfl
/-- what the map of counts holds -/
def CntD (D : DataW Unit) (l : List EI) : Prop :=
  (∀ a b kl, keyOf Tryd.prog 72 (pairV a b) = some kl → D.atKey kl (.lit (.int .i64 0)) = .lit (.int .i64 (cntE l a b))) ∧ ∀ kl, Maps.has D kl = true → ∃ r ∈ l, keyOf Tryd.prog 72 (pairV r.1 r.2.1) = some kl
theorem cntD_nil : CntD (.map []) [] := ⟨fun _ _ _ _ => rfl, fun kl h => by cases h⟩
theorem pairV_inj {a b p q : ByteArray} (h : pairV a b = pairV p q) : p = a ∧ q = b := by
  unfold pairV at h
  injection h with h
  simp at h
  exact ⟨h.1.symm, h.2.symm⟩
theorem cntD_put {D : DataW Unit} {l : List EI} {k : Nat} {x : EI} {kl : Lit} (hD : Maps.IsMap D) (h : CntD D (l.take k)) (hx : l[k]? = some x) (hk : keyOf Tryd.prog 72 (pairV x.1 x.2.1) = some kl) :
    CntD (D.put kl (.lit (.int .i64 ((cntE (l.take k) x.1 x.2.1 : Int) + 1)))) (l.take (k + 1)) := by
  have KK := Keyed.of_law pairLaw
  refine ⟨fun a b kl' hk' => ?_, fun kl' hh => ?_⟩
  · rw [cntE_take hx]
    by_cases e : kl' = kl
    · subst e
      obtain ⟨e1, e2⟩ := pairV_inj (KK.inj hk' hk)
      rw [Maps.atKey_put_same hD (KK.key hk), if_pos ⟨e1, e2⟩, e1, e2]
      rfl
    · rw [Maps.atKey_put_other e, h.1 a b kl' hk', if_neg]
      · rfl
      · rintro ⟨rfl, rfl⟩
        rw [hk] at hk'
        exact e (Option.some.inj hk').symm
  · have hmem : ∀ r ∈ l.take k, r ∈ l.take (k + 1) := fun r hr => by
      have hj := (List.getElem?_eq_some_iff.1 hx).1
      rw [List.take_succ_eq_append_getElem hj]
      exact List.mem_append_left _ hr
    by_cases e : kl' = kl
    · subst e
      refine ⟨x, ?_, hk⟩
      have hj := (List.getElem?_eq_some_iff.1 hx).1
      rw [List.take_succ_eq_append_getElem hj, (List.getElem?_eq_some_iff.1 hx).2]
      exact List.mem_append_right _ (List.mem_singleton.2 rfl)
    · rw [Maps.has_put_other e] at hh
      obtain ⟨r, hr, hkr⟩ := h.2 kl' hh
      exact ⟨r, hmem r hr, hkr⟩
end Go.Proofs.YtbpfabicampdkaaDoor
