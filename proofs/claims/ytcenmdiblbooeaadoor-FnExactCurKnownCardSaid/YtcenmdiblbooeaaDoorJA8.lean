/-
  Slices of amounts: what laws.szMoneyS, toMoneyS, eqMoneyS and markMoneyS return.
  Chapter 10: sums of slices of amounts, in package spec.
  Slices of signed numbers: what laws.toSignedS, eqSignedS, markSignedS and szSignedS return.
  Chapter 5: sums of slices of signed numbers, in both packages.
  Sums of amounts in plain words.
  Chapter 10: sums of slices of amounts, in package impl.
  Chapter 10 of package impl: what MoneyAdd and MoneySub return.
-/
import Derived.Deep.RegionHeld3
import Derived.Deep.DeepCutAuto
import Derived.Test.YtcenmdiblbooeaaDoorJA7
namespace Go.Proofs.YtcenmdiblbooeaaDoor
open Go.RowKit

/-- cell i of element j, three cells an element -/
def cell3 (a : Addr) (j i : Nat) : Addr := ⟨(a.add (j * 3)).block, (a.add (j * 3)).off + i, none⟩
/-- a slice that reads as these amounts: an element three cells: its currency, its sign, the slice of its limbs -/
def RdML (w : World) (v : Value) (l : List MI) : Prop :=
  ∃ A c, v = .slice A l.length c ∧ ∀ (j : Nat) x, l[j]? = some x → ∃ a u, A = some a ∧ a.block < w.heap.size ∧ w.cell? (a.add (j * 3)) = some (.string x.1) ∧ w.cell? ⟨(a.add (j * 3)).block, (a.add (j * 3)).off + 1, none⟩ = some (.bool x.2.1) ∧ w.cell? ⟨(a.add (j * 3)).block, (a.add (j * 3)).off + 2, none⟩ = some u ∧ Row w 0 w.heap.size u (intsV x.2.2)
theorem cell_keep3 {w w' : World} {a : Addr} (hb : Below w.heap.size w w') (h : a.block < w.heap.size) (j i : Nat) : w'.cell? ⟨(a.add (j * 3)).block, (a.add (j * 3)).off + i, none⟩ = w.cell? ⟨(a.add (j * 3)).block, (a.add (j * 3)).off + i, none⟩ :=
  hb.cell (by show (a.add (j * 3)).block < _; rw [block_add]; exact h)
theorem cell_keep3' {w w' : World} {a : Addr} (hb : Below w.heap.size w w') (h : a.block < w.heap.size) (j : Nat) : w'.cell? (a.add (j * 3)) = w.cell? (a.add (j * 3)) := hb.cell (by rw [block_add]; exact h)
theorem RdML.below {w w' : World} {v : Value} {l : List MI} (h : RdML w v l) (hb : Below w.heap.size w w') : RdML w' v l := by
  obtain ⟨A, c, rfl, h⟩ := h
  refine ⟨A, c, rfl, fun j x hj => ?_⟩
  obtain ⟨a, u, rfl, h1, h2, h3, h4, h5⟩ := h j x hj
  exact ⟨a, u, rfl, Nat.lt_of_lt_of_le h1 hb.size, (cell_keep3' hb h1 j).trans h2, (cell_keep3 hb h1 j 1).trans h3, (cell_keep3 hb h1 j 2).trans h4, (h5.below hb (Nat.le_refl _)).wide (Nat.le_refl _) hb.size⟩
/-- how much there is to read -/
def szML : List MI → Int
  | [] => 0
  | x :: l => szM x + szML l
theorem szML_nonneg (l : List MI) : 0 ≤ szML l := by
  induction l with
  | nil => exact Int.le_refl _
  | cons x l ih => show 0 ≤ szM x + szML l; have := szM_nonneg x; omega
theorem szML_append (l r : List MI) : szML (l ++ r) = szML l + szML r := by
  induction l with
  | nil => show szML r = 0 + szML r; omega
  | cons x l ih => show szM x + szML (l ++ r) = szM x + szML l + szML r; rw [ih]; omega
theorem szML_take {l : List MI} {j : Nat} {x : MI} (h : l[j]? = some x) : szML (l.take (j + 1)) = szML (l.take j) + szM x := by
  have hj := (List.getElem?_eq_some_iff.1 h).1
  have e : l[j] = x := (List.getElem?_eq_some_iff.1 h).2
  rw [List.take_succ_eq_append_getElem hj, szML_append, e]
  show _ + (szM x + 0) = _
  omega
theorem szML_take_le (l : List MI) (j : Nat) : szML (l.take j) ≤ szML l := by
  have := szML_append (l.take j) (l.drop j)
  rw [List.take_append_drop] at this
  have := szML_nonneg (l.drop j)
  omega
set_option maxHeartbeats 1000000 in
set_option maxRecDepth 100000 in
theorem szMoneyS_any (v : Value) (l : List MI) (left : Int) (w : World) (hl : l.length ≤ 9223372036854775807) (hx : ∀ x ∈ l, capM x) (h0 : 0 ≤ left) (h1 : left ≤ 1048576) (h : RdML w v l) :
    Calls Tryd.prog 42 #[v, .int .i64 left] w fun e w' => e = .returned (.int .i64 (leftI left (l.length + szML l))) ∧ Below w.heap.size w w' := by
  obtain ⟨A, c, rfl, hc⟩ := h
  by_cases hn : left - l.length < 0
  · have hp := szML_nonneg l
    have HV := Lib.hid (show leftI left (l.length + szML l) = -1 by unfold leftI; rw [if_pos (by omega)])
    clear hp
    go_enter Tryd.func42, Tryd.ntmps42
    go_wp2
    go_ret
    exact ⟨ret_int HV.out.symm, Below.refl _ _⟩
  · go_enter Tryd.func42, Tryd.ntmps42
    go_wp2
    go_loopw [1, 5] (fun a i wr => ∃ (j : Nat) (z : Int), j ≤ l.length ∧ i = .int .i64 j ∧ a = .int .i64 z ∧ 0 ≤ z ∧ z ≤ 1048576 ∧ Hid (z = left - l.length - szML (l.take j)) ∧ Below w.heap.size w wr) (fun _ i _ => l.length - (intOf i).toNat)
    case atStart => exact ⟨0, left - l.length, by omega, rfl, rfl, by omega, by omega, Lib.hid (by rw [List.take_zero]; show _ = _ - (0 : Int); omega), Below.refl _ _⟩
    case round =>
      obtain ⟨j, z, hj, rfl, rfl, hz0, hz1, HZ, hb⟩ := hrel
      by_cases hlt : j < l.length
      · obtain ⟨x, hxj⟩ : ∃ x, l[j]? = some x := ⟨_, List.getElem?_eq_getElem hlt⟩
        obtain ⟨a, u, rfl, ha, hc0, hc1, hc2, hr⟩ := hc j x hxj
        have hxl := hx x (List.mem_of_getElem? hxj)
        have k0 := (cell_keep3' hb ha j).trans hc0
        have k1 := (cell_keep3 hb ha j 1).trans hc1
        have k2 := (cell_keep3 hb ha j 2).trans hc2
        obtain ⟨A1, c1, rfl⟩ := row_form hr
        rw [intsV_length] at hc2 k2 hr
        go_wp2_with fail
        refine (szM_cal _ x z _ hxl hz0 hz1 (RdM.below ⟨_, rfl, hr⟩ hb)).mono ?_
        rintro e w1 ⟨rfl, b1⟩
        have bb1 := Below.next hb b1
        have hs0 := szM_nonneg x
        have HT := Lib.hid (szML_take hxj)
        have HTL := Lib.hid (szML_take_le l (j + 1))
        clear hc0 hc1 hc2 k0 k1 k2 hc hxl hr
        by_cases hv : z - szM x < 0
        · have HV := Lib.hid (show leftI left (l.length + szML l) = -1 by
            have h1 := HT.out
            have h2 := HTL.out
            have h3 := HZ.out
            unfold leftI; rw [if_pos (by omega)])
          rw [show leftI z (szM x) = -1 by unfold leftI; rw [if_pos hv]]
          clear hv hs0
          go_wp2
          go_ret
          exact ⟨ret_int HV.out.symm, bb1⟩
        · rw [show leftI z (szM x) = z - szM x by unfold leftI; rw [if_neg hv]]
          have hnb : decide (z - szM x < 0) = false := decide_eq_false hv
          obtain ⟨z1, hz1e⟩ : ∃ z1, z1 = z - szM x := ⟨_, rfl⟩
          rw [← hz1e] at hnb ⊢
          have HE := Lib.hid (show z1 = left - l.length - szML (l.take (j + 1)) ∧ 0 ≤ z1 ∧ z1 ≤ 1048576 by
            have h1 := HT.out
            have h3 := HZ.out
            omega)
          clear hv hs0 hz1e
          go_wp2
          go_roundw
          case rel => exact ⟨j + 1, z1, by omega, by go_num, rfl, HE.out.2.1, HE.out.2.2, Lib.hid HE.out.1, bb1⟩
          case measure => simp [intOf]; omega
      · obtain rfl : j = l.length := by omega
        have HV := Lib.hid (show leftI left (l.length + szML l) = z by
          have h3 := HZ.out
          rw [List.take_length] at h3
          unfold leftI; rw [if_neg (by omega)]; omega)
        clear hc
        go_wp2
        go_ret
        exact ⟨ret_int HV.out.symm, hb⟩
theorem add_ownM (g m : Nat) : (⟨g, 0, none⟩ : Addr).add m = ⟨g, m, none⟩ := by
  unfold Addr.add
  split
  · rename_i h; rw [h]
  · simp
/-- the cells of such a slice -/
def flatM : List (ByteArray × Bool × Value) → List Value
  | [] => []
  | p :: r => .string p.1 :: .bool p.2.1 :: p.2.2 :: flatM r
theorem flatM_length (e : List (ByteArray × Bool × Value)) : (flatM e).length = e.length * 3 := by
  induction e with
  | nil => rfl
  | cons p r ih => show (flatM r).length + 1 + 1 + 1 = (r.length + 1) * 3; omega
theorem flatM_append (e f : List (ByteArray × Bool × Value)) : flatM (e ++ f) = flatM e ++ flatM f := by
  induction e with
  | nil => rfl
  | cons p r ih => show _ :: _ :: _ :: flatM (r ++ f) = _; rw [ih]; rfl
theorem flatM_get {e : List (ByteArray × Bool × Value)} {j : Nat} {p : ByteArray × Bool × Value} (h : e[j]? = some p) : (flatM e)[j * 3]? = some (.string p.1) ∧ (flatM e)[j * 3 + 1]? = some (.bool p.2.1) ∧ (flatM e)[j * 3 + 2]? = some p.2.2 := by
  induction e generalizing j with
  | nil => simp at h
  | cons q r ih =>
    cases j with
    | zero =>
      have : q = p := by simpa using h
      subst this
      exact ⟨rfl, rfl, rfl⟩
    | succ j =>
      have := ih (j := j) (by simpa using h)
      rw [show (j + 1) * 3 = j * 3 + 1 + 1 + 1 by omega]
      exact this
theorem set_three (xs : List Value) (k : Nat) (a b c : Value) (h : k * 3 + 2 < xs.length) : (((xs.set (k * 3) a).set (k * 3 + 1) b).set (k * 3 + 2) c).take ((k + 1) * 3) = xs.take (k * 3) ++ [a, b, c] := by
  rw [show (k + 1) * 3 = k * 3 + 1 + 1 + 1 by omega, List.take_succ_eq_append_getElem (by simp; omega), List.take_succ_eq_append_getElem (by simp; omega), List.take_succ_eq_append_getElem (by simp; omega),
    List.take_set_of_le (by omega), List.take_set_of_le (by omega), List.take_set_of_le (by omega), List.append_assoc, List.append_assoc]
  simp
/-- the limbs of these amounts, each on blocks of its own, between lo and hi -/
def OwnMs (w : World) : Nat → List MI → List (ByteArray × Bool × Value) → Nat → Prop
  | lo, [], [], hi => lo ≤ hi
  | lo, x :: l, p :: e, hi => ∃ mid, lo ≤ mid ∧ p.1 = x.1 ∧ p.2.1 = x.2.1 ∧ w.ownsRow lo 3 1 p.2.2 x.2.2.length (intsV x.2.2) ∧ (∀ b, p.2.2.ownBlock = some b → b < mid) ∧ OwnMs w mid l e hi
  | _, _, _, _ => False
theorem OwnMs.le {w : World} {lo hi : Nat} {l : List MI} {e : List (ByteArray × Bool × Value)} (h : OwnMs w lo l e hi) : lo ≤ hi := by
  induction l generalizing lo e with
  | nil => cases e with | nil => exact h | cons _ _ => exact h.elim
  | cons x l ih => cases e with | nil => exact h.elim | cons p e => obtain ⟨mid, h1, _, _, _, _, h2⟩ := h; exact Nat.le_trans h1 (ih h2)
theorem OwnMs.length {w : World} {lo hi : Nat} {l : List MI} {e : List (ByteArray × Bool × Value)} (h : OwnMs w lo l e hi) : e.length = l.length := by
  induction l generalizing lo e with
  | nil => cases e with | nil => rfl | cons _ _ => exact h.elim
  | cons x l ih => cases e with | nil => exact h.elim | cons p e => obtain ⟨mid, _, _, _, _, _, h2⟩ := h; simp [ih h2]
theorem OwnMs.stays {w w' : World} {lo hi : Nat} {l : List MI} {e : List (ByteArray × Bool × Value)} (h : OwnMs w lo l e hi) (hk : ∀ i, lo ≤ i → i < hi → w'.heap[i]? = w.heap[i]?) : OwnMs w' lo l e hi := by
  induction l generalizing lo e with
  | nil => cases e with | nil => exact h | cons _ _ => exact h.elim
  | cons x l ih =>
    cases e with
    | nil => exact h.elim
    | cons p e =>
      obtain ⟨mid, h1, h2, h2', h3, h4, h5⟩ := h
      have hle := h5.le
      exact ⟨mid, h1, h2, h2', own_stays h3 fun i hi => hk i (own_lt h3 hi).1 (Nat.lt_of_lt_of_le (h4 i hi) hle), h4, ih h5 fun i hi hi2 => hk i (by omega) hi2⟩
theorem OwnMs.wide {w : World} {lo hi hi' : Nat} {l : List MI} {e : List (ByteArray × Bool × Value)} (h : OwnMs w lo l e hi) (hh : hi ≤ hi') : OwnMs w lo l e hi' := by
  induction l generalizing lo e with
  | nil => cases e with | nil => exact Nat.le_trans h hh | cons _ _ => exact h.elim
  | cons x l ih => cases e with | nil => exact h.elim | cons p e => obtain ⟨mid, h1, h2, h2', h3, h4, h5⟩ := h; exact ⟨mid, h1, h2, h2', h3, h4, ih h5⟩
theorem OwnMs.snoc {w : World} {lo mid hi : Nat} {l : List MI} {e : List (ByteArray × Bool × Value)} {x : MI} {u : Value} (h : OwnMs w lo l e mid) (o : w.ownsRow mid 3 1 u x.2.2.length (intsV x.2.2)) (hu : ∀ b, u.ownBlock = some b → b < hi) (hh : mid ≤ hi) : OwnMs w lo (l ++ [x]) (e ++ [(x.1, x.2.1, u)]) hi := by
  induction l generalizing lo e with
  | nil =>
    cases e with
    | nil =>
      have hm : lo ≤ mid := h
      exact ⟨hi, Nat.le_trans hm hh, rfl, rfl, own_low o hm, hu, Nat.le_refl _⟩
    | cons _ _ => exact h.elim
  | cons y l ih => cases e with | nil => exact h.elim | cons p e => obtain ⟨m, h1, h2, h2', h3, h4, h5⟩ := h; exact ⟨m, h1, h2, h2', h3, h4, ih h5⟩
theorem OwnMs.at_ {w : World} {lo hi : Nat} {l : List MI} {e : List (ByteArray × Bool × Value)} (h : OwnMs w lo l e hi) {j : Nat} {x : MI} (hx : l[j]? = some x) : ∃ u, e[j]? = some (x.1, x.2.1, u) ∧ OwnI u x.2.2 w := by
  induction l generalizing lo e j with
  | nil => simp at hx
  | cons y l ih =>
    cases e with
    | nil => exact h.elim
    | cons p e =>
      obtain ⟨m, h1, h2, h2', h3, h4, h5⟩ := h
      cases j with
      | zero =>
        have : y = x := by simpa using hx
        subst this
        exact ⟨p.2.2, by rw [← h2, ← h2']; rfl, own_zero h3⟩
      | succ j => exact ih h5 (by simpa using hx)
/-- such a slice, of the call's own: its cells and limbs lie between lo and hi -/
def OwnML (v : Value) (l : List MI) (lo hi : Nat) (w : World) : Prop :=
  ∃ g e, v = .slice (some ⟨g, 0, none⟩) l.length l.length ∧ lo ≤ g ∧ g < hi ∧ hi ≤ w.heap.size ∧ w.ownsRow lo 32 3 v l.length (flatM e) ∧ OwnMs w (g + 1) l e hi
theorem OwnML.stays {v : Value} {l : List MI} {lo hi : Nat} {w w' : World} (h : OwnML v l lo hi w) (hk : ∀ i, lo ≤ i → i < hi → w'.heap[i]? = w.heap[i]?) (hz : w.heap.size ≤ w'.heap.size) : OwnML v l lo hi w' := by
  obtain ⟨g, e, rfl, h1, h2, h3, h4, h5⟩ := h
  exact ⟨g, e, rfl, h1, h2, Nat.le_trans h3 hz, own_stays h4 fun i hi => by cases hi; exact hk g h1 h2, h5.stays fun i hi hi2 => hk i (by omega) hi2⟩
theorem OwnML.below {v : Value} {l : List MI} {lo hi : Nat} {w w' : World} (h : OwnML v l lo hi w) (hb : Below w.heap.size w w') : OwnML v l lo hi w' := by
  have hh := h
  obtain ⟨_, _, _, _, _, h3, _, _⟩ := hh
  exact h.stays (fun i _ hi => hb.block i (by omega)) hb.size
theorem OwnML.rd {v : Value} {l : List MI} {lo hi : Nat} {w : World} (h : OwnML v l lo hi w) : RdML w v l := by
  obtain ⟨g, e, rfl, h1, h2, h3, h4, h5⟩ := h
  refine ⟨_, _, rfl, fun j x hj => ?_⟩
  have hjl := (List.getElem?_eq_some_iff.1 hj).1
  obtain ⟨u, he, ho⟩ := h5.at_ hj
  have hf := flatM_get he
  refine ⟨⟨g, 0, none⟩, u, rfl, by show g < _; omega, ?_, ?_, ?_, ho.row⟩
  · have := h4.cellAt (j * 3) (by omega)
    rw [hf.1] at this
    rw [add_ownM]
    exact this
  · have := h4.cellAt (j * 3 + 1) (by omega)
    rw [hf.2.1] at this
    rw [add_ownM]
    exact this
  · have := h4.cellAt (j * 3 + 2) (by omega)
    rw [hf.2.2] at this
    rw [add_ownM]
    exact this
theorem own_high {w : World} {base B n size : Nat} {e : TypeId} {v : Value} {xs : List Value} (h : w.ownsRow base e size v n xs) (hb : ∀ g, v.ownBlock = some g → B ≤ g) : w.ownsRow B e size v n xs := by
  obtain ⟨hl, h | ⟨g, cap, cur, rfl, _, r⟩⟩ := h
  · exact ⟨hl, .inl h⟩
  · exact ⟨hl, .inr ⟨g, cap, cur, rfl, hb g rfl, r⟩⟩
/-- a new amount's limbs, with where they lie -/
theorem newM_own {x : MI} {w w' : World} {S : List Nat} {c0 c1 u : Value} (o : At S (OwnM (.agg #[c0, c1, u]) x) w') (l : Within S w.heap.size w'.heap.size) : w'.ownsRow w.heap.size 3 1 u x.2.2.length (intsV x.2.2) ∧ ∀ b, u.ownBlock = some b → b < w'.heap.size := by
  have hm := at_ints_mem o (fun w' k => ownM_open k)
  exact ⟨own_high (ownM_open o.here) fun g hg => (l g (hm g hg)).1, fun b hb => (l b (hm b hb)).2⟩
theorem moneyInfo : (Tryd.prog.info? 32).map (fun i => (i.zero, i.size, i.bytes)) = some (some (.agg #[.string ⟨#[]⟩, .bool false, .slice none 0 0]), 3, 48) := by kernel_rfl
theorem make_money (n : Nat) (hn : n ≤ 1099511627776) (W : World) :
    (Instr.makeSlice 56 (.int .i64 (n : Int)) (.int .i64 (n : Int))).run Tryd.prog W = .ok (.slice (some ⟨W.heap.size, 0, none⟩) n n) (W.alloc (.cells (madeCells #[.string ⟨#[]⟩, .bool false, .slice none 0 0] (n * 3)) 32)) := by
  obtain ⟨i0, hi, hz0, hz1, hz2⟩ := info_parts moneyInfo
  have h := run_make (P := Tryd.prog) W 56 32 i0 (.agg #[.string ⟨#[]⟩, .bool false, .slice none 0 0]) Tryd.underlying56 hi hz0 .i64 .i64 (n : Int) (n : Int) (by omega) (by omega) (by rw [hz2]; omega) (by omega)
  rw [hz1, Int.toNat_natCast] at h
  exact h
/-- a new slice of amounts -/
def NewML (l : List MI) (w : World) (e : Ending) (w' : World) : Prop := ∃ v, e = .returned v ∧ OwnML v l w.heap.size w'.heap.size w' ∧ Below w.heap.size w w'
set_option maxHeartbeats 1000000 in
set_option maxRecDepth 100000 in
theorem toMoneyS_any (v : Value) (l : List MI) (w : World) (hl : l.length ≤ 1048576) (hx : ∀ x ∈ l, szM x ≤ 1048576) (h : RdML w v l) :
    Calls Tryd.prog 44 #[v] w (NewML l w) := by
  obtain ⟨A, c, rfl, hc⟩ := h
  have HC := Lib.hid hc
  have hmk := make_money l.length (by omega)
  clear hc
  go_enter Tryd.func44, Tryd.ntmps44
  go_wp2
  go_loopw [4] (fun i wr => ∃ (k : Nat) (xs : List Value) (e : List (ByteArray × Bool × Value)), k ≤ l.length ∧ i = .int .i64 k ∧ wr.ownsRow w.heap.size 32 3 (.slice (some ⟨w.heap.size, 0, none⟩) l.length l.length) l.length xs ∧ Hid (xs.take (k * 3) = flatM e) ∧ OwnMs wr (w.heap.size + 1) (l.take k) e wr.heap.size ∧ Below w.heap.size w wr) (fun i _ => l.length - (intOf i).toNat)
  case atStart =>
    have h := World.ownsRow_lit (e := 32) (size := 3) (base := w.heap.size) w (madeCells #[.string ⟨#[]⟩, .bool false, .slice none 0 0] (l.length * 3)) l.length (Nat.le_refl _) (by unfold maxLen; omega) (by rw [size_madeCells])
    exact ⟨0, _, [], Nat.zero_le _, rfl, h, Lib.hid (by rw [Nat.zero_mul, List.take_zero]; rfl), by rw [List.take_zero]; show _ ≤ _; simp, (Below.refl _ _).alloc (Nat.le_refl _) _⟩
  case round =>
    obtain ⟨k, xs, e, hk, rfl, ho, HX, hes, hb⟩ := hrel
    by_cases hlt : k < l.length
    · obtain ⟨x, hxk⟩ : ∃ x, l[k]? = some x := ⟨_, List.getElem?_eq_getElem hlt⟩
      obtain ⟨a, u, rfl, ha, hc0, hc1, hc2, hr⟩ := HC.out k x hxk
      have hxl := hx x (List.mem_of_getElem? hxk)
      have k0 := (cell_keep3' hb ha k).trans hc0
      have k1 := (cell_keep3 hb ha k 1).trans hc1
      have k2 := (cell_keep3 hb ha k 2).trans hc2
      obtain ⟨A1, c1, rfl⟩ := row_form hr
      rw [intsV_length] at hc2 k2 hr
      go_wp2_with fail
      refine (toM_new _ x _ hxl (RdM.below ⟨_, rfl, hr⟩ hb)).mono ?_
      rintro e' w1 ⟨u0, S1, rfl, o0, l0, b1⟩
      obtain ⟨A2, c2, rfl⟩ := ownM_form o0.here
      obtain ⟨o1, hu1⟩ := newM_own o0 l0
      have bb1 := Below.next hb b1
      have ho1 := own_below ho b1
      have hxs := ho1.1
      have hcell0 := ho1.cellAt (k * 3) (by omega)
      have hcell1 := ho1.cellAt (k * 3 + 1) (by omega)
      have hcell2 := ho1.cellAt (k * 3 + 2) (by omega)
      rw [List.getElem?_eq_getElem (by omega)] at hcell0 hcell1 hcell2
      have hfr0 := ho1.frozenAt (k * 3)
      have hfr1 := ho1.frozenAt (k * 3 + 1)
      have hfr2 := ho1.frozenAt (k * 3 + 2)
      obtain ⟨ho2, hg2⟩ := ho1.stored (k * 3) (.string x.1)
      obtain ⟨ho3, hg3⟩ := ho2.stored (k * 3 + 1) (.bool x.2.1)
      obtain ⟨ho4, hg4⟩ := ho3.stored (k * 3 + 2) (.slice A2 x.2.2.length c2)
      have hlw : w.heap.size < wr.heap.size := (own_lt ho (g := w.heap.size) rfl).2
      have hes1 := OwnMs.snoc (hi := w1.heap.size) (hes.stays fun i _ hi => b1.block i hi) o1 hu1 b1.size
      have hes2 : OwnMs (((w1.setCell ⟨w.heap.size, k * 3, none⟩ (.string x.1)).setCell ⟨w.heap.size, k * 3 + 1, none⟩ (.bool x.2.1)).setCell ⟨w.heap.size, k * 3 + 2, none⟩ (.slice A2 x.2.2.length c2)) (w.heap.size + 1) (l.take (k + 1)) (e ++ [(x.1, x.2.1, .slice A2 x.2.2.length c2)]) (((w1.setCell ⟨w.heap.size, k * 3, none⟩ (.string x.1)).setCell ⟨w.heap.size, k * 3 + 1, none⟩ (.bool x.2.1)).setCell ⟨w.heap.size, k * 3 + 2, none⟩ (.slice A2 x.2.2.length c2)).heap.size := by
        rw [List.take_succ_eq_append_getElem hlt, (List.getElem?_eq_some_iff.1 hxk).2]
        refine (hes1.stays fun i hi _ => ?_).wide (by simp [World.setCell])
        have hne : i ≠ w.heap.size := by omega
        rw [Below.heap_setCell _ _ _ _ hne, Below.heap_setCell _ _ _ _ hne, Below.heap_setCell _ _ _ _ hne]
      have hb3 : Below w.heap.size w (((w1.setCell ⟨w.heap.size, k * 3, none⟩ (.string x.1)).setCell ⟨w.heap.size, k * 3 + 1, none⟩ (.bool x.2.1)).setCell ⟨w.heap.size, k * 3 + 2, none⟩ (.slice A2 x.2.2.length c2)) := ((bb1.setCell (p := ⟨w.heap.size, k * 3, none⟩) (Nat.le_refl _) _).setCell (p := ⟨w.heap.size, k * 3 + 1, none⟩) (Nat.le_refl _) _).setCell (p := ⟨w.heap.size, k * 3 + 2, none⟩) (Nat.le_refl _) _
      have HF := Lib.hid (show (((xs.set (k * 3) (.string x.1)).set (k * 3 + 1) (.bool x.2.1)).set (k * 3 + 2) (.slice A2 x.2.2.length c2)).take ((k + 1) * 3) = flatM (e ++ [(x.1, x.2.1, .slice A2 x.2.2.length c2)]) by
        rw [set_three xs k _ _ _ (by omega), HX.out, flatM_append]; rfl)
      have H3 := Lib.hid ho4
      have HE2 := Lib.hid hes2
      have HB3 := Lib.hid hb3
      clear hes hes1 hes2 ho ho1 ho2 ho3 ho4 hg2 hg3 hg4 hb3 o1 o0 l0 hu1 k0 k1 k2 hc0 hc1 hc2 hr b1 bb1
      go_wp2
      go_roundw
      case rel => exact ⟨k + 1, _, _, by omega, by go_num, H3.out, HF, HE2.out, HB3.out⟩
      case measure => simp [intOf]; omega
    · obtain rfl : k = l.length := by omega
      have hxs := ho.1
      have he : xs = flatM e := by rw [← HX.out, List.take_of_length_le (by omega)]
      rw [List.take_length] at hes
      have hlw : w.heap.size < wr.heap.size := (own_lt ho (g := w.heap.size) rfl).2
      have HO := Lib.hid (show OwnML (.slice (some ⟨w.heap.size, 0, none⟩) l.length l.length) l w.heap.size wr.heap.size wr from ⟨w.heap.size, e, rfl, Nat.le_refl _, hlw, Nat.le_refl _, by rw [← he]; exact ho, hes⟩)
      clear he hes hxs ho
      go_wp2
      go_ret
      exact ⟨_, rfl, HO.out, hb⟩
set_option maxHeartbeats 1000000 in
set_option maxRecDepth 100000 in
theorem eqMoneyS_any (va vb : Value) (ss ts : List MI) (w : World) (hl : ss.length ≤ 140737488355328) (hx : ∀ x ∈ ss, capM x) (hra : RdML w va ss) (hrb : RdML w vb ts) :
    Calls Tryd.prog 46 #[va, vb] w fun e w' => e = .returned (.bool (decide (ss = ts))) ∧ Below w.heap.size w w' := by
  obtain ⟨A, c, rfl, hA⟩ := hra
  obtain ⟨B, d, rfl, hB⟩ := hrb
  have HA := Lib.hid hA
  have HB := Lib.hid hB
  clear hA hB
  by_cases hlen : ss.length = ts.length
  · have HL := Lib.hid hlen
    have hbe : ((ss.length : Int) != (ts.length : Int)) = false := by simp [hlen]
    clear hlen
    go_enter Tryd.func46, Tryd.ntmps46
    go_wp2
    go_loopw [5] (fun i wr => ∃ k : Nat, k ≤ ss.length ∧ i = .int .i64 k ∧ Below w.heap.size w wr ∧ Hid (ss.take k = ts.take k)) (fun i _ => ss.length - (intOf i).toNat)
    case atStart => exact ⟨0, Nat.zero_le _, rfl, Below.refl _ _, Lib.hid rfl⟩
    case round =>
      obtain ⟨k, hk, rfl, hb, HT⟩ := hrel
      by_cases hlt : k < ss.length
      · have hlt2 : k < ts.length := by have := HL.out; omega
        obtain ⟨a, u, rfl, ha, hc0, hc1, hc2, hr⟩ := HA.out k ss[k] (List.getElem?_eq_getElem hlt)
        obtain ⟨b, v, rfl, ha', hd0, hd1, hd2, hr'⟩ := HB.out k ts[k] (List.getElem?_eq_getElem hlt2)
        have hxl := hx ss[k] (List.getElem_mem hlt)
        obtain ⟨A1, c1, rfl⟩ := row_form hr
        obtain ⟨B1, d1, rfl⟩ := row_form hr'
        rw [intsV_length] at hc2 hr hd2 hr'
        have HR := Lib.hid (show ∀ W, Below w.heap.size w W → RdM W (.agg #[.string ss[k].1, .bool ss[k].2.1, .slice A1 ss[k].2.2.length c1]) ss[k] from fun W hb => RdM.below ⟨_, rfl, hr⟩ hb)
        have HR' := Lib.hid (show ∀ W, Below w.heap.size w W → RdM W (.agg #[.string ts[k].1, .bool ts[k].2.1, .slice B1 ts[k].2.2.length d1]) ts[k] from fun W hb => RdM.below ⟨_, rfl, hr'⟩ hb)
        have HCC := Lib.hid (show a.block < w.heap.size ∧ b.block < w.heap.size ∧ w.cell? (a.add (k * 3)) = some (.string ss[k].1) ∧ w.cell? ⟨(a.add (k * 3)).block, (a.add (k * 3)).off + 1, none⟩ = some (.bool ss[k].2.1) ∧ w.cell? ⟨(a.add (k * 3)).block, (a.add (k * 3)).off + 2, none⟩ = some (.slice A1 ss[k].2.2.length c1) ∧ w.cell? (b.add (k * 3)) = some (.string ts[k].1) ∧ w.cell? ⟨(b.add (k * 3)).block, (b.add (k * 3)).off + 1, none⟩ = some (.bool ts[k].2.1) ∧ w.cell? ⟨(b.add (k * 3)).block, (b.add (k * 3)).off + 2, none⟩ = some (.slice B1 ts[k].2.2.length d1) from ⟨ha, ha', hc0, hc1, hc2, hd0, hd1, hd2⟩)
        have HTS := Lib.hid (show (ss[k] = ts[k] → ss.take (k + 1) = ts.take (k + 1)) ∧ (¬ ss[k] = ts[k] → ¬ ss = ts) from ⟨take_same_succ HT.out hlt hlt2, ne_of_at hlt hlt2⟩)
        generalize ss[k] = x at *
        generalize ts[k] = y at *
        have KL := Lib.hid (show ∀ W, Below w.heap.size w W → W.cell? (a.add (k * 3)) = some (.string x.1) ∧ W.cell? ⟨(a.add (k * 3)).block, (a.add (k * 3)).off + 1, none⟩ = some (.bool x.2.1) ∧ W.cell? ⟨(a.add (k * 3)).block, (a.add (k * 3)).off + 2, none⟩ = some (.slice A1 x.2.2.length c1) ∧ W.cell? (b.add (k * 3)) = some (.string y.1) ∧ W.cell? ⟨(b.add (k * 3)).block, (b.add (k * 3)).off + 1, none⟩ = some (.bool y.2.1) ∧ W.cell? ⟨(b.add (k * 3)).block, (b.add (k * 3)).off + 2, none⟩ = some (.slice B1 y.2.2.length d1) ∧ Hid (Below w.heap.size w W) from
          fun W hb => by
            obtain ⟨h1, h2, h3, h4, h5, h6, h7, h8⟩ := HCC.out
            exact ⟨(cell_keep3' hb h1 k).trans h3, (cell_keep3 hb h1 k 1).trans h4, (cell_keep3 hb h1 k 2).trans h5, (cell_keep3' hb h2 k).trans h6, (cell_keep3 hb h2 k 1).trans h7, (cell_keep3 hb h2 k 2).trans h8, Lib.hid hb⟩)
        have HB0 := Lib.hid hb
        have HXL := Lib.hid hxl
        clear hb hc0 hc1 hc2 hd0 hd1 hd2 hr hr' ha ha' hxl HCC
        go_wp2
        go_region_held3 (fun W => W.cell? (a.add (k * 3)) = some (.string x.1) ∧ W.cell? ⟨(a.add (k * 3)).block, (a.add (k * 3)).off + 1, none⟩ = some (.bool x.2.1) ∧ W.cell? ⟨(a.add (k * 3)).block, (a.add (k * 3)).off + 2, none⟩ = some (.slice A1 x.2.2.length c1) ∧ W.cell? (b.add (k * 3)) = some (.string y.1) ∧ W.cell? ⟨(b.add (k * 3)).block, (b.add (k * 3)).off + 1, none⟩ = some (.bool y.2.1) ∧ W.cell? ⟨(b.add (k * 3)).block, (b.add (k * 3)).off + 2, none⟩ = some (.slice B1 y.2.2.length d1) ∧ Hid (Below w.heap.size w W))
          ((refine KL.out _ ?_; (first | exact HB1.out | exact HB0.out.drew | fail)))
          (first
            | (go_at_call 20; (have hBB := (‹_ ∧ _ ∧ _ ∧ _ ∧ _ ∧ _ ∧ Hid (Below w.heap.size w _)›).2.2.2.2.2.2); (with_reducible refine (eqM_cal _ _ x y _ HXL.out (HR.out _ hBB.out) (HR'.out _ hBB.out)).mono ?_); rintro e w1 ⟨rfl, b1⟩; have HB1 := Lib.hid (Below.next hBB.out b1); clear hBB b1))
        by_cases he : x = y
        · have hdt : decide (x = y) = true := decide_eq_true he
          rw [hdt]
          have HE := Lib.hid (HTS.out.1 he)
          clear hdt he
          go_wp2
          go_roundw
          case rel => exact ⟨k + 1, by omega, by go_num, HB1.out, HE⟩
          case measure => simp [intOf]; omega
        · have hdt : decide (x = y) = false := decide_eq_false he
          rw [hdt]
          have HE := Lib.hid (HTS.out.2 he)
          clear hdt he
          go_wp2
          go_ret
          exact ⟨ret_bool (decide_eq_false HE.out).symm, HB1.out⟩
      · go_wp2
        go_ret
        exact ⟨ret_bool (decide_eq_true (same_of_takes HT.out HL.out hlt)).symm, hb⟩
  · have hbe : ((ss.length : Int) != (ts.length : Int)) = true := by simp; omega
    go_enter Tryd.func46, Tryd.ntmps46
    go_wp2
    go_ret
    exact ⟨ret_bool (decide_eq_false (fun e => hlen (by rw [e]))).symm, Below.refl _ _⟩


/-- the blocks from lo on, ahead of hi -/
def rangeM (lo hi : Nat) : List Nat := List.range' lo (hi - lo)
theorem mem_rangeM {lo hi g : Nat} (h : lo ≤ g) (h2 : g < hi) : g ∈ rangeM lo hi := by
  unfold rangeM
  rw [List.mem_range'_1]
  omega
theorem rangeM_mem {lo hi g : Nat} (h : g ∈ rangeM lo hi) : lo ≤ g ∧ g < hi := by
  unfold rangeM at h
  rw [List.mem_range'_1] at h
  omega
theorem Chg.grownM {S : List Nat} {w w1 w2 : World} {v : Value} (h : Chg S w w1) (hg : w1.grownBy w2 v.ownBlock) (hS : ∀ b, v.ownBlock = some b → b ∈ S) : Chg S w w2 :=
  h.trans ((Chg.of_grown hg).more fun g hg => hS g (by simpa using hg))
/-- how much a mark of it takes -/
def mkML : List MI → Int
  | [] => 0
  | x :: l => 2 + szS x.2 + mkML l
theorem mkML_nonneg (l : List MI) : 0 ≤ mkML l := by
  induction l with
  | nil => exact Int.le_refl _
  | cons x l ih => show 0 ≤ 2 + szS x.2 + mkML l; unfold szS szI; omega
theorem mkML_len (l : List MI) : (l.length : Int) ≤ mkML l := by
  induction l with
  | nil => exact Int.le_refl _
  | cons x l ih => show ((l.length + 1 : Nat) : Int) ≤ 2 + szS x.2 + mkML l; unfold szS szI; omega
theorem mkML_append (l r : List MI) : mkML (l ++ r) = mkML l + mkML r := by
  induction l with
  | nil => show mkML r = 0 + mkML r; omega
  | cons x l ih => show 2 + szS x.2 + mkML (l ++ r) = 2 + szS x.2 + mkML l + mkML r; rw [ih]; omega
theorem mkML_take {l : List MI} {j : Nat} {x : MI} (h : l[j]? = some x) : mkML (l.take (j + 1)) = mkML (l.take j) + (2 + szS x.2) := by
  have hj := (List.getElem?_eq_some_iff.1 h).1
  have e : l[j] = x := (List.getElem?_eq_some_iff.1 h).2
  rw [List.take_succ_eq_append_getElem hj, mkML_append, e]
  show _ + (2 + szS x.2 + 0) = _
  omega
theorem mkML_take_le (l : List MI) (j : Nat) : mkML (l.take j) ≤ mkML l := by
  have := mkML_append (l.take j) (l.drop j)
  rw [List.take_append_drop] at this
  have := mkML_nonneg (l.drop j)
  omega
set_option maxHeartbeats 1000000 in
set_option maxRecDepth 100000 in
theorem markMoneyS_any (v : Value) (l : List MI) (lo hi : Nat) (m : Int) (w : World) (hm : m + mkML l ≤ 9223372036854775807) (hm0 : 0 ≤ m) (h : OwnML v l lo hi w) :
    Calls Tryd.prog 47 #[v, .int .i64 m] w fun e w' => e = .returned (.int .i64 (m + mkML l)) ∧ Chg (rangeM lo hi) w w' := by
  obtain ⟨g, e, rfl, hg0, hg1, hsz, ho, hes⟩ := h
  have hel := hes.length
  have HEL := Lib.hid hel
  have hln := mkML_nonneg l
  have hll : (l.length : Int) ≤ 9223372036854775807 := by have := mkML_len l; omega
  go_enter Tryd.func47, Tryd.ntmps47
  go_wp2
  go_loopw [1, 5] (fun a i wr => ∃ (k : Nat) (z : Int) (xs : List Value) (mid : Nat), k ≤ l.length ∧ i = .int .i64 k ∧ a = .int .i64 z ∧ Hid (z = m + mkML (l.take k)) ∧ wr.ownsRow lo 32 3 (.slice (some ⟨g, 0, none⟩) l.length l.length) l.length xs ∧ Hid (xs.drop (k * 3) = flatM (e.drop k)) ∧ g < mid ∧ OwnMs wr mid (l.drop k) (e.drop k) hi ∧ Chg (rangeM lo hi) w wr) (fun _ i _ => l.length - (intOf i).toNat)
  case atStart => exact ⟨0, m, _, g + 1, Nat.zero_le _, rfl, rfl, Lib.hid (by rw [List.take_zero]; show _ = _ + (0 : Int); omega), ho, Lib.hid (by rw [Nat.zero_mul]; rfl), by omega, hes, Chg.refl _ _⟩
  case round =>
    clear ho hes
    obtain ⟨k, z, xs, mid, hk, rfl, rfl, HZ, ho, HX, hgm, hes, hc⟩ := hrel
    by_cases hlt : k < l.length
    · obtain ⟨x, hxk⟩ : ∃ x, l[k]? = some x := ⟨_, List.getElem?_eq_getElem hlt⟩
      have hxs := ho.1
      have HT := Lib.hid (mkML_take hxk)
      have HTL := Lib.hid (mkML_take_le l (k + 1))
      have HT0 := Lib.hid (mkML_nonneg (l.take k))
      rw [List.drop_eq_getElem_cons hlt, List.drop_eq_getElem_cons (l := e) (i := k) (by rw [hel]; exact hlt), (List.getElem?_eq_some_iff.1 hxk).2] at hes
      have hxd := HX.out
      rw [List.drop_eq_getElem_cons (l := e) (by rw [hel]; exact hlt)] at hxd
      obtain ⟨mid2, hm1, hm2, hm2', hm3, hm4, hm5⟩ := hes
      generalize e[k]'(by rw [hel]; exact hlt) = p at *
      have hx2 : xs[k * 3 + 2]? = some p.2.2 := by
        have : (xs.drop (k * 3))[2]? = some p.2.2 := by rw [hxd]; rfl
        rwa [List.getElem?_drop] at this
      have hxd2 : xs.drop ((k + 1) * 3) = flatM (e.drop (k + 1)) := by
        rw [show (k + 1) * 3 = k * 3 + 3 by omega, ← List.drop_drop, hxd]
        rfl
      have hzb : 0 ≤ z ∧ z + 2 + szS x.2 ≤ 9223372036854775807 ∧ z + 1 + 1 + x.2.2.length = m + mkML (l.take (k + 1)) := by
        have h1 := HZ.out
        have h2 := HT.out
        have h3 := HTL.out
        have h4 := HT0.out
        have h5 : szS x.2 = x.2.2.length := rfl
        omega
      have hs0 : szS x.2 = x.2.2.length := rfl
      have hz0 : 0 ≤ z := hzb.1
      have hz1 : z + 2 + x.2.2.length ≤ 9223372036854775807 := by omega
      have HZ2 := Lib.hid hzb.2.2
      have hb : ∀ b, p.2.2.ownBlock = some b → b ∈ rangeM lo hi := fun b hb => mem_rangeM (by have := (own_lt hm3 hb).1; omega) (by have := hm4 b hb; have := hm5.le; omega)
      have HO := Lib.hid ho
      have HM3 := Lib.hid hm3
      have HM5 := Lib.hid hm5
      have HM4 := Lib.hid hm4
      have HB := Lib.hid hb
      have HC0 := Lib.hid hc
      have HXD := Lib.hid hxd2
      have HX2 := Lib.hid hx2
      clear hxd hm3 hm5 hm4 hb hc hzb HX HT HTL HT0 ho hxd2 hx2
      go_wp2_with fail
      refine (markText_any z _ (by omega)).mono ?_
      rintro e' w1 ⟨rfl, b1⟩
      have ho1 := own_below HO.out b1
      have hx2 := HX2.out
      have hcell0 := ho1.cellAt (k * 3) (by omega)
      have hcell1 := ho1.cellAt (k * 3 + 1) (by omega)
      rw [List.getElem?_eq_getElem (by omega)] at hcell0 hcell1
      have hcell2 := ho1.cellAt (k * 3 + 2) (by omega)
      rw [hx2] at hcell2
      have hfr0 := ho1.frozenAt (k * 3)
      have hfr1 := ho1.frozenAt (k * 3 + 1)
      obtain ⟨ho2, _⟩ := ho1.stored (k * 3) (.string (markB z))
      obtain ⟨ho3, _⟩ := ho2.stored (k * 3 + 1) (.bool ((z + 1) % 3 == 0))
      have hz := HC0.out.size
      have hm3' : ((w1.setCell ⟨g, k * 3, none⟩ (.string (markB z))).setCell ⟨g, k * 3 + 1, none⟩ (.bool ((z + 1) % 3 == 0))).ownsRow mid 3 1 p.2.2 x.2.2.length (intsV x.2.2) := own_stays (own_below HM3.out b1) fun i hi => by
        have hne : i ≠ g := by have := (own_lt HM3.out hi).1; omega
        rw [Below.heap_setCell _ _ _ _ hne, Below.heap_setCell _ _ _ _ hne]
      have hm5' : OwnMs ((w1.setCell ⟨g, k * 3, none⟩ (.string (markB z))).setCell ⟨g, k * 3 + 1, none⟩ (.bool ((z + 1) % 3 == 0))) mid2 (l.drop (k + 1)) (e.drop (k + 1)) hi := HM5.out.stays fun i hi hi2 => by
        have hne : i ≠ g := by omega
        rw [Below.heap_setCell _ _ _ _ hne, Below.heap_setCell _ _ _ _ hne]
        exact b1.block i (by omega)
      have hc' := ((HC0.out.trans (Chg.of_below b1)).setCell (p := ⟨g, k * 3, none⟩) (mem_rangeM hg0 hg1) (.string (markB z))).setCell (p := ⟨g, k * 3 + 1, none⟩) (mem_rangeM hg0 hg1) (.bool ((z + 1) % 3 == 0))
      have HX3 := Lib.hid (show ((xs.set (k * 3) (.string (markB z))).set (k * 3 + 1) (.bool ((z + 1) % 3 == 0))).drop ((k + 1) * 3) = flatM (e.drop (k + 1)) by rw [List.drop_set_of_lt (by omega), List.drop_set_of_lt (by omega)]; exact HXD.out)
      have H1 := Lib.hid ho3
      have H3 := Lib.hid hm3'
      have H5 := Lib.hid hm5'
      have HC := Lib.hid hc'
      clear ho1 ho2 ho3 hm3' hm5' hc' b1 HO HC0 HM3 HM5
      generalize markB z = M at *
      go_wp2_with fail
      with_reducible refine (markIntS_any p.2.2 x.2.2.length (intsV x.2.2) mid (z + 1 + 1) _ (by omega) (by omega) H3.out).mono ?_
      rintro e' w2 ⟨rfl, o2, g2⟩
      have hlt2 := (own_lt H1.out (g := g) rfl).2
      have ho2 : w2.ownsRow lo 32 3 (.slice (some ⟨g, 0, none⟩) l.length l.length) l.length ((xs.set (k * 3) (.string M)).set (k * 3 + 1) (.bool ((z + 1) % 3 == 0))) := own_stays H1.out fun i hi => by
        cases hi
        refine g2.block g hlt2 (fun e => ?_)
        have := (own_lt H3.out e.symm).1
        omega
      have hes2 : OwnMs w2 mid2 (l.drop (k + 1)) (e.drop (k + 1)) hi := H5.out.stays fun i hi hi2 => by
        refine g2.block i ?_ (fun e => ?_)
        · have := HC.out.size; omega
        · have := HM4.out i e.symm; omega
      have hc2 := HC.out.grownM g2 HB.out
      have HO2 := Lib.hid ho2
      have HE2 := Lib.hid hes2
      have HC2 := Lib.hid hc2
      clear ho2 hes2 hc2 g2 o2
      go_wp2
      go_roundw
      case rel => exact ⟨k + 1, _, _, mid2, by omega, by go_num, rfl, HZ2, HO2.out, HX3, by omega, HE2.out, HC2.out⟩
      case measure => simp [intOf]; omega
    · obtain rfl : k = l.length := by omega
      have HV := Lib.hid (show m + mkML l = z by
        have h3 := HZ.out
        rw [List.take_length] at h3
        omega)
      go_wp2
      go_ret
      exact ⟨ret_int HV.out.symm, hc⟩
end Go.Proofs.YtcenmdiblbooeaaDoor

namespace Go.Proofs.YtcenmdiblbooeaaDoor
open Go.RowKit

/-- a slice that reads as these amounts, their limbs of the call's own -/
def OwnMR (w : World) (v : Value) (l : List MI) : Prop :=
  ∃ A c, v = .slice A l.length c ∧ ∀ (j : Nat) x, l[j]? = some x → ∃ a u, A = some a ∧ a.block < w.heap.size ∧ w.cell? (a.add (j * 3)) = some (.string x.1) ∧ w.cell? ⟨(a.add (j * 3)).block, (a.add (j * 3)).off + 1, none⟩ = some (.bool x.2.1) ∧ w.cell? ⟨(a.add (j * 3)).block, (a.add (j * 3)).off + 2, none⟩ = some u ∧ OwnI u x.2.2 w
theorem OwnML.ownR {v : Value} {l : List MI} {lo hi : Nat} {w : World} (h : OwnML v l lo hi w) : OwnMR w v l := by
  obtain ⟨g, e, rfl, h1, h2, h3, h4, h5⟩ := h
  refine ⟨_, _, rfl, fun j x hj => ?_⟩
  have hjl := (List.getElem?_eq_some_iff.1 hj).1
  obtain ⟨u, he, ho⟩ := h5.at_ hj
  have hf := flatM_get he
  refine ⟨⟨g, 0, none⟩, u, rfl, by show g < _; omega, ?_, ?_, ?_, ho⟩
  · have := h4.cellAt (j * 3) (by omega)
    rw [hf.1] at this
    rw [add_ownM]
    exact this
  · have := h4.cellAt (j * 3 + 1) (by omega)
    rw [hf.2.1] at this
    rw [add_ownM]
    exact this
  · have := h4.cellAt (j * 3 + 2) (by omega)
    rw [hf.2.2] at this
    rw [add_ownM]
    exact this
def foldU (l : List MI) : SI := l.foldl (fun s m => addS s m.2) zeroS
theorem foldU_snoc (l : List MI) (x : MI) : foldU (l ++ [x]) = addS (foldU l) x.2 := by unfold foldU; rw [List.foldl_append]; rfl
theorem addS_lenM (x y : SI) : (addS x y).2.length ≤ 50 := by unfold addS; split; exact ofZ_len _; exact Nat.zero_le _
theorem foldU_len (l : List MI) : (foldU l).2.length ≤ 50 := by
  rcases List.eq_nil_or_concat l with rfl | ⟨r, x, rfl⟩
  · exact Nat.zero_le _
  · rw [List.concat_eq_append, foldU_snoc]; exact addS_lenM _ _
def fitM (cu : ByteArray) (m : MI) : Bool := okM m && decide (m.1 = cu)
def sumM (cu : ByteArray) (l : List MI) : MI × Bool := if l.all (fitM cu) = true then makeM cu (foldU l) else (zeroM, false)
theorem sumM_bad {cu : ByteArray} {l : List MI} {j : Nat} {x : MI} (hx : l[j]? = some x) (h : ¬ fitM cu x = true) : sumM cu l = (zeroM, false) := by
  unfold sumM
  rw [if_neg]
  intro ha
  rw [List.all_eq_true] at ha
  exact h (ha x (List.mem_of_getElem? hx))
theorem take_snocM {l : List MI} {k : Nat} {x : MI} (h : l[k]? = some x) : l.take (k + 1) = l.take k ++ [x] := by
  have hj := (List.getElem?_eq_some_iff.1 h).1
  rw [List.take_succ_eq_append_getElem hj, (List.getElem?_eq_some_iff.1 h).2]
theorem set_boxM {g : Nat} {a b : Value} {c0 c1 : Value} {W : World} (h : BoxAt g #[c0, c1] 30 W) : BoxAt g #[a, b] 30 ((W.setCell ⟨g, 0, none⟩ a).setCell ⟨g, 1, none⟩ b) := by
  have h' : W.heap[g]? = some (.cells #[c0, c1] 30 (0, 0)) := h
  simp [BoxAt, World.setCell, Array.getElem?_modify, h']
/-- the sum so far, in its box -/
def SumRel (cu : ByteArray) (l : List MI) (w : World) (i : Value) (wr : World) : Prop :=
  ∃ (k : Nat) (u : Value), k ≤ l.length ∧ i = .int .i64 k ∧ (l.take k).all (fitM cu) = true ∧ At [w.heap.size + 1] (BoxAt (w.heap.size + 1) #[.bool (foldU (l.take k)).1, u] 30) wr ∧ wr.ownsRow (w.heap.size + 2) 3 1 u (foldU (l.take k)).2.length (intsV (foldU (l.take k)).2) ∧ At [w.heap.size] (BoxAt w.heap.size #[.string ⟨#[]⟩, .bool false, .slice none 0 0] 32) wr ∧ Below w.heap.size w wr
theorem sumRel_next {cu : ByteArray} {l : List MI} {w w2 : World} {k : Nat} {x : MI} {s : SI} {A : Option Addr} {c : Nat} {z0 z1 : Value} (hk : k < l.length) (hx : l[k]? = some x) (ha : (l.take k).all (fitM cu) = true) (hf : fitM cu x = true) (hs : s = foldU (l.take (k + 1)))
    (ko : At [w.heap.size + 1] (BoxAt (w.heap.size + 1) #[z0, z1] 30) w2) (kr : At [w.heap.size] (BoxAt w.heap.size #[.string ⟨#[]⟩, .bool false, .slice none 0 0] 32) w2)
    (o : w2.ownsRow (w.heap.size + 2) 3 1 (.slice A s.2.length c) s.2.length (intsV s.2)) (hb : Below w.heap.size w w2) :
    SumRel cu l w (.int .i64 ((k : Int) + 1)) ((w2.setCell ⟨w.heap.size + 1, 0, none⟩ (.bool s.1)).setCell ⟨w.heap.size + 1, 1, none⟩ (.slice A s.2.length c)) := by
  subst hs
  have hc : Chg [w.heap.size + 1] w2 ((w2.setCell ⟨w.heap.size + 1, 0, none⟩ (.bool (foldU (l.take (k + 1))).1)).setCell ⟨w.heap.size + 1, 1, none⟩ (.slice A (foldU (l.take (k + 1))).2.length c)) := ((Chg.refl _ _).setCell (by simp) _).setCell (by simp) _
  refine ⟨k + 1, _, by omega, by go_num, ?_, box_at (set_boxM ko.here), own_stays o fun i hi => hc.block i (own_lt o hi).2 (by have := (own_lt o hi).1; simp; omega), kr.chg hc (fun i hi hm => by simp at hi hm; omega), below_chg hb hc hb.size (fun i hi => by simp at hi; omega)⟩
  rw [take_snocM hx, List.all_append, ha]
  simp [hf]
set_option maxHeartbeats 4000000 in
set_option maxRecDepth 100000 in
theorem specMoneySum_any (cu : ByteArray) (v : Value) (l : List MI) (w : World) (hl : l.length ≤ 140737488355328) (hx : ∀ x ∈ l, x.2.2.length ≤ 1048576) (h : OwnMR w v l) :
    Calls Tryd.prog 43 #[.string cu, v] w (PostMb (sumM cu l).1 (sumM cu l).2 w) := by
  have hbb : Below w.heap.size w ((w.alloc (.cells #[.string ⟨#[]⟩, .bool false, .slice none 0 0] 32)).alloc (.cells #[.bool false, .slice none 0 0] 30)) := below_al (below_al (Below.refl _ _) _) _
  have kr := (box_new w #[.string ⟨#[]⟩, .bool false, .slice none 0 0] 32).below (below_al (Below.refl _ _) (.cells #[.bool false, .slice none 0 0] 30))
  have ko := box_new (w.alloc (.cells #[.string ⟨#[]⟩, .bool false, .slice none 0 0] 32)) #[.bool false, .slice none 0 0] 30
  rw [show (w.alloc (.cells #[.string ⟨#[]⟩, .bool false, .slice none 0 0] 32)).heap.size = w.heap.size + 1 by simp] at ko
  obtain ⟨A, c, rfl, hc⟩ := h
  have HC := Lib.hid hc
  clear hc
  have HREL := Lib.hid (show SumRel cu l w (.int .i64 0) _ from ⟨0, .slice none 0 0, Nat.zero_le _, rfl, rfl, ko, World.ownsRow_nil _ _ _ _, kr, hbb⟩)
  clear kr ko hbb
  go_enter Tryd.func43, Tryd.ntmps43
  go_wp2
  go_loopw [12] (fun i wr => SumRel cu l w i wr) (fun i _ => l.length - (intOf i).toNat)
  case atStart => exact HREL.out
  case round =>
    clear HREL
    obtain ⟨k, u, hk, rfl, ha, ko, ou, kr, hb⟩ := hrel
    have hso := ko.lt (w.heap.size + 1) (by simp)
    obtain ⟨Au, cu', rfl⟩ := own_len ou
    by_cases hlt : k < l.length
    · obtain ⟨x, hxk⟩ : ∃ x, l[k]? = some x := ⟨_, List.getElem?_eq_getElem hlt⟩
      obtain ⟨a, ux, rfl, haa, hc0, hc1, hc2, hox⟩ := HC.out k x hxk
      have hxl := hx x (List.mem_of_getElem? hxk)
      obtain ⟨A1, c1, rfl⟩ := own_len hox
      have k0 := (cell_keep3' hb haa k).trans hc0
      have k1 := (cell_keep3 hb haa k 1).trans hc1
      have k2 := (cell_keep3 hb haa k 2).trans hc2
      have hbx := below_al (Below.refl wr.heap.size wr) (.cells #[.string x.1, .bool x.2.1, .slice A1 x.2.2.length c1] 32)
      have kx := box_new wr #[.string x.1, .bool x.2.1, .slice A1 x.2.2.length c1] 32
      have OX := Lib.hid (show ∀ W, Below (wr.alloc (.cells #[.string x.1, .bool x.2.1, .slice A1 x.2.2.length c1] 32)).heap.size (wr.alloc (.cells #[.string x.1, .bool x.2.1, .slice A1 x.2.2.length c1] 32)) W → OwnM (.agg #[.string x.1, .bool x.2.1, .slice A1 x.2.2.length c1]) x W from fun W h => OwnM.below (OwnM.below (OwnM.below ⟨_, rfl, hox⟩ hb) hbx) h)
      replace ko := ko.below hbx
      replace kr := kr.below hbx
      replace ou := own_below ou hbx
      have hfl := foldU_len (l.take k)
      have bb := Below.next hb hbx
      have HA := Lib.hid ha
      have hlt' := hlt
      go_wp2_with fail
      refine (specMoneyOk_any _ x _ hxl (OX.out _ (Below.refl _ _))).mono ?_
      rintro e w1 ⟨rfl, b1⟩
      by_cases okx : okM x = true
      · rw [okx]
        by_cases he : x.1 = cu
        · have hfit : fitM cu x = true := by unfold fitM; rw [okx, decide_eq_true he]; rfl
          have HFS := Lib.hid (show addS (foldU (l.take k)) x.2 = foldU (l.take (k + 1)) by rw [take_snocM hxk, foldU_snoc])
          replace kx := kx.below b1
          replace ko := ko.below b1
          replace kr := kr.below b1
          replace ou := own_below ou b1
          have bb2 := Below.next bb b1
          have cx0 := kx.here.cell 0 _ rfl
          rw [he] at cx0
          have cx1 := kx.here.cell 1 _ rfl
          have cx2 := kx.here.cell 2 _ rfl
          have co0 := ko.here.cell 0 _ rfl
          have co1 := ko.here.cell 1 _ rfl
          have HKO := Lib.hid ko
          have HKR := Lib.hid kr
          have HOU := Lib.hid (OwnS.mk (x := foldU (l.take k)) (own_zero ou))
          have HOX := Lib.hid (OwnS.mk (x := x.2) (ownM_open (OX.out _ b1)))
          have HFIT := Lib.hid hfit
          have HXK := Lib.hid hxk
          have HB2 := Lib.hid bb2
          clear k0 k1 k2 hc0 hc1 hc2 hox kx ko kr ou bb bb2 hb hbx b1 okx he hfit hxk haa hlt' ha
          generalize foldU (l.take k) = s at *
          go_wp2_with fail
          refine (specIntAdd_any _ _ s x.2 _ (by omega) hxl HOU.out HOX.out).mono ?_
          rintro e w2 ⟨u2, rfl, o2, b2⟩
          obtain ⟨s2, hs2⟩ : ∃ s2, s2 = addS s x.2 := ⟨_, rfl⟩
          rw [← hs2] at o2 HFS ⊢
          obtain ⟨A2, c2, rfl⟩ := own_len o2
          have ko3 := HKO.out.below b2
          have kr3 := HKR.out.below b2
          have HREL := Lib.hid (sumRel_next hlt HXK.out HA.out HFIT.out HFS.out ko3 kr3 (own_low o2 (by have := HKO.out.lt (w.heap.size + 1) (by simp); omega)) (Below.next HB2.out b2))
          have cz0 := ko3.here.cell 0 _ rfl
          have cz1 := ko3.here.cell 1 _ rfl
          have fz0 := Lib.frozen_of_heap ko3.here 0
          have fz1 := Lib.frozen_of_heap ko3.here 1
          clear ko3 kr3 o2 b2 cx0 cx1 cx2 co0 co1 hs2 HFS HFIT HXK
          go_wp2
          exact ⟨HREL.out, by simp [intOf]; omega⟩
        · have HV := Lib.hid (sumM_bad (cu := cu) hxk (by unfold fitM; rw [okx, decide_eq_false he]; simp))
          have hne := bytes_neC he
          have hne2 : (x.1.toList != cu.toList) = true := by rw [bne, hne]; rfl
          replace kx := kx.below b1
          have cx0 := kx.here.cell 0 _ rfl
          have bb2 := Below.next bb b1
          replace kr := kr.below b1
          have cz0 := kr.here.cell 0 _ rfl
          have cz1 := kr.here.cell 1 _ rfl
          have cz2 := kr.here.cell 2 _ rfl
          have fz0 := Lib.frozen_of_heap kr.here 0
          have fz1 := Lib.frozen_of_heap kr.here 1
          have fz2 := Lib.frozen_of_heap kr.here 2
          clear k0 k1 k2 hc0 hc1 hc2 hox kx ko kr ou okx he hbx hb bb b1 haa
          go_wp2
          refine bodyPost_ret (v := .tuple #[.agg #[.string ⟨#[]⟩, .bool false, .slice none 0 0], .bool false]) (by simp [results, Tryd.results43, go_sem, cz0, cz1, cz2]) rfl ?_
          rw [HV.out]
          first | exact newMb_zero _ bb2 | exact newMb_zero _ (below_set3 bb2 (Nat.le_refl _))
      · have okx' : okM x = false := by simpa using okx
        have HV := Lib.hid (sumM_bad (cu := cu) hxk (by unfold fitM; rw [okx']; simp))
        rw [okx']
        have bb2 := Below.next bb b1
        replace kr := kr.below b1
        have cz0 := kr.here.cell 0 _ rfl
        have cz1 := kr.here.cell 1 _ rfl
        have cz2 := kr.here.cell 2 _ rfl
        have fz0 := Lib.frozen_of_heap kr.here 0
        have fz1 := Lib.frozen_of_heap kr.here 1
        have fz2 := Lib.frozen_of_heap kr.here 2
        clear k0 k1 k2 hc0 hc1 hc2 hox kx ko kr ou okx okx' hbx hb bb b1 haa
        go_wp2
        refine bodyPost_ret (v := .tuple #[.agg #[.string ⟨#[]⟩, .bool false, .slice none 0 0], .bool false]) (by simp [results, Tryd.results43, go_sem, cz0, cz1, cz2]) rfl ?_
        rw [HV.out]
        first | exact newMb_zero _ bb2 | exact newMb_zero _ (below_set3 bb2 (Nat.le_refl _))
    · obtain rfl : k = l.length := by omega
      rw [List.take_length] at ha ko ou
      have HV := Lib.hid (show sumM cu l = makeM cu (foldU l) by unfold sumM; rw [if_pos ha])
      have hfl := foldU_len l
      have co0 := ko.here.cell 0 _ rfl
      have co1 := ko.here.cell 1 _ rfl
      have HO := Lib.hid ((own_at' (own_zero ou)).imp fun _ h => (OwnS.mk (x := foldU l) h : OwnS (.agg #[.bool (foldU l).1, .slice Au (foldU l).2.length cu']) (foldU l) _))
      have HLW := Lib.hid (own_within ou)
      obtain ⟨Q, hQ⟩ : ∃ Q, makeM cu (foldU l) = Q := ⟨_, rfl⟩
      have EV := Lib.hid hQ
      rw [hQ] at HV
      have HKR := Lib.hid kr
      have HB := Lib.hid hb
      clear hQ ou ko kr hb ha
      generalize foldU l = s at *
      go_wp2_with fail
      refine ((l09Make_any cu _ s _ _ (by omega) HO.out).mono fun _ _ h => keptM_eq EV.out h).mono ?_
      rintro e w1 ⟨uf, Sf, rfl, of, sf, b1⟩
      obtain ⟨Af, cf, rfl⟩ := ownM_form of.here
      have kr2 := HKR.out.below b1
      have HW := Lib.hid (newMb_at (r := w.heap.size) (b := Q.2) (B := w.heap.size + 2) of (fun i hi => ⟨(HLW.out i (sf i hi)).1, of.lt i hi⟩) (by omega) (Nat.le_refl _) (Below.next HB.out b1))
      have cz0 := kr2.here.cell 0 _ rfl
      have cz1 := kr2.here.cell 1 _ rfl
      have cz2 := kr2.here.cell 2 _ rfl
      have fz0 := Lib.frozen_of_heap kr2.here 0
      have fz1 := Lib.frozen_of_heap kr2.here 1
      have fz2 := Lib.frozen_of_heap kr2.here 2
      clear of kr2 co0 co1 b1
      go_wp2
      refine bodyPost_ret (v := .tuple #[.agg #[.string _, .bool _, .slice Af _ cf], .bool _]) (by simp [results, Tryd.results43, go_sem, cz0, cz1, cz2]; exact ⟨⟨rfl, rfl, rfl⟩, rfl⟩) rfl ?_
      rw [HV.out]
      exact HW.out
end Go.Proofs.YtcenmdiblbooeaaDoor

namespace Go.Proofs.YtcenmdiblbooeaaDoor
open Go.RowKit

/-- a slice that reads as these numbers: an element two cells, its sign and the slice of its limbs -/
def RdL (w : World) (v : Value) (l : List SI) : Prop :=
  ∃ A c, v = .slice A l.length c ∧ ∀ (j : Nat) x, l[j]? = some x → ∃ a u, A = some a ∧ a.block < w.heap.size ∧ w.cell? (a.add (j * 2)) = some (.bool x.1) ∧ w.cell? ⟨(a.add (j * 2)).block, (a.add (j * 2)).off + 1, none⟩ = some u ∧ Row w 0 w.heap.size u (intsV x.2)
theorem RdL.below {w w' : World} {v : Value} {l : List SI} (h : RdL w v l) (hb : Below w.heap.size w w') : RdL w' v l := by
  obtain ⟨A, c, rfl, h⟩ := h
  refine ⟨A, c, rfl, fun j x hj => ?_⟩
  obtain ⟨a, u, rfl, h1, h2, h3, h4⟩ := h j x hj
  exact ⟨a, u, rfl, Nat.lt_of_lt_of_le h1 hb.size, (hb.cell (by rw [block_add]; exact h1)).trans h2, (hb.cell (by show (a.add (j * 2)).block < _; rw [block_add]; exact h1)).trans h3, (h4.below hb (Nat.le_refl _)).wide (Nat.le_refl _) hb.size⟩
/-- how much there is to read -/
def szL : List SI → Int
  | [] => 0
  | x :: l => szS x + szL l
theorem szL_nonneg (l : List SI) : 0 ≤ szL l := by
  induction l with
  | nil => exact Int.le_refl _
  | cons x l ih => show 0 ≤ szS x + szL l; unfold szS szI; omega
theorem szL_append (l r : List SI) : szL (l ++ r) = szL l + szL r := by
  induction l with
  | nil => show szL r = 0 + szL r; omega
  | cons x l ih => show szS x + szL (l ++ r) = szS x + szL l + szL r; rw [ih]; omega
theorem szL_take {l : List SI} {j : Nat} {x : SI} (h : l[j]? = some x) : szL (l.take (j + 1)) = szL (l.take j) + szS x := by
  have hj := (List.getElem?_eq_some_iff.1 h).1
  have e : l[j] = x := (List.getElem?_eq_some_iff.1 h).2
  rw [List.take_succ_eq_append_getElem hj, szL_append, e]
  show _ + (szS x + 0) = _
  omega
theorem szL_take_le (l : List SI) (j : Nat) : szL (l.take j) ≤ szL l := by
  have := szL_append (l.take j) (l.drop j)
  rw [List.take_append_drop] at this
  have := szL_nonneg (l.drop j)
  omega

theorem add_own (g m : Nat) : (⟨g, 0, none⟩ : Addr).add m = ⟨g, m, none⟩ := by
  unfold Addr.add
  split
  · rename_i h; rw [h]
  · simp
/-- the cells of such a slice -/
def flatC : List (Bool × Value) → List Value
  | [] => []
  | p :: r => .bool p.1 :: p.2 :: flatC r
theorem flatC_length (e : List (Bool × Value)) : (flatC e).length = e.length * 2 := by
  induction e with
  | nil => rfl
  | cons p r ih => show (flatC r).length + 1 + 1 = (r.length + 1) * 2; omega
theorem flatC_append (e f : List (Bool × Value)) : flatC (e ++ f) = flatC e ++ flatC f := by
  induction e with
  | nil => rfl
  | cons p r ih => show _ :: _ :: flatC (r ++ f) = _; rw [ih]; rfl
theorem flatC_get {e : List (Bool × Value)} {j : Nat} {p : Bool × Value} (h : e[j]? = some p) : (flatC e)[j * 2]? = some (.bool p.1) ∧ (flatC e)[j * 2 + 1]? = some p.2 := by
  induction e generalizing j with
  | nil => simp at h
  | cons q r ih =>
    cases j with
    | zero =>
      have : q = p := by simpa using h
      subst this
      exact ⟨rfl, rfl⟩
    | succ j =>
      have := ih (j := j) (by simpa using h)
      rw [show (j + 1) * 2 = j * 2 + 1 + 1 by omega]
      exact this
theorem set_two (xs : List Value) (k : Nat) (a b : Value) (h : k * 2 + 1 < xs.length) : ((xs.set (k * 2) a).set (k * 2 + 1) b).take ((k + 1) * 2) = xs.take (k * 2) ++ [a, b] := by
  rw [show (k + 1) * 2 = k * 2 + 1 + 1 by omega, List.take_succ_eq_append_getElem (by simp; omega), List.take_succ_eq_append_getElem (by simp; omega), List.take_set_of_le (by omega), List.take_set_of_le (by omega), List.append_assoc]
  simp
theorem drop_two (xs : List Value) (k : Nat) (a b : Value) : ((xs.set (k * 2) a).set (k * 2 + 1) b).drop ((k + 1) * 2) = xs.drop ((k + 1) * 2) := by
  rw [List.drop_set_of_lt (by omega), List.drop_set_of_lt (by omega)]
/-- the limbs of these numbers, each on blocks of its own, between lo and hi -/
def OwnEs (w : World) : Nat → List SI → List (Bool × Value) → Nat → Prop
  | lo, [], [], hi => lo ≤ hi
  | lo, x :: l, p :: e, hi => ∃ mid, lo ≤ mid ∧ p.1 = x.1 ∧ w.ownsRow lo 3 1 p.2 x.2.length (intsV x.2) ∧ (∀ b, p.2.ownBlock = some b → b < mid) ∧ OwnEs w mid l e hi
  | _, _, _, _ => False
theorem OwnEs.le {w : World} {lo hi : Nat} {l : List SI} {e : List (Bool × Value)} (h : OwnEs w lo l e hi) : lo ≤ hi := by
  induction l generalizing lo e with
  | nil => cases e with | nil => exact h | cons _ _ => exact h.elim
  | cons x l ih => cases e with | nil => exact h.elim | cons p e => obtain ⟨mid, h1, _, _, _, h2⟩ := h; exact Nat.le_trans h1 (ih h2)
theorem OwnEs.length {w : World} {lo hi : Nat} {l : List SI} {e : List (Bool × Value)} (h : OwnEs w lo l e hi) : e.length = l.length := by
  induction l generalizing lo e with
  | nil => cases e with | nil => rfl | cons _ _ => exact h.elim
  | cons x l ih => cases e with | nil => exact h.elim | cons p e => obtain ⟨mid, _, _, _, _, h2⟩ := h; simp [ih h2]
theorem OwnEs.stays {w w' : World} {lo hi : Nat} {l : List SI} {e : List (Bool × Value)} (h : OwnEs w lo l e hi) (hk : ∀ i, lo ≤ i → i < hi → w'.heap[i]? = w.heap[i]?) : OwnEs w' lo l e hi := by
  induction l generalizing lo e with
  | nil => cases e with | nil => exact h | cons _ _ => exact h.elim
  | cons x l ih =>
    cases e with
    | nil => exact h.elim
    | cons p e =>
      obtain ⟨mid, h1, h2, h3, h4, h5⟩ := h
      have hle := h5.le
      exact ⟨mid, h1, h2, own_stays h3 fun i hi => hk i (own_lt h3 hi).1 (Nat.lt_of_lt_of_le (h4 i hi) hle), h4, ih h5 fun i hi hi2 => hk i (by omega) hi2⟩
theorem OwnEs.wide {w : World} {lo hi hi' : Nat} {l : List SI} {e : List (Bool × Value)} (h : OwnEs w lo l e hi) (hh : hi ≤ hi') : OwnEs w lo l e hi' := by
  induction l generalizing lo e with
  | nil => cases e with | nil => exact Nat.le_trans h hh | cons _ _ => exact h.elim
  | cons x l ih => cases e with | nil => exact h.elim | cons p e => obtain ⟨mid, h1, h2, h3, h4, h5⟩ := h; exact ⟨mid, h1, h2, h3, h4, ih h5⟩
theorem OwnEs.snoc {w : World} {lo mid hi : Nat} {l : List SI} {e : List (Bool × Value)} {x : SI} {u : Value} (h : OwnEs w lo l e mid) (o : w.ownsRow mid 3 1 u x.2.length (intsV x.2)) (hu : ∀ b, u.ownBlock = some b → b < hi) (hh : mid ≤ hi) : OwnEs w lo (l ++ [x]) (e ++ [(x.1, u)]) hi := by
  induction l generalizing lo e with
  | nil =>
    cases e with
    | nil =>
      have hm : lo ≤ mid := h
      exact ⟨hi, Nat.le_trans hm hh, rfl, own_low o hm, hu, Nat.le_refl _⟩
    | cons _ _ => exact h.elim
  | cons y l ih => cases e with | nil => exact h.elim | cons p e => obtain ⟨m, h1, h2, h3, h4, h5⟩ := h; exact ⟨m, h1, h2, h3, h4, ih h5⟩
theorem OwnEs.at_ {w : World} {lo hi : Nat} {l : List SI} {e : List (Bool × Value)} (h : OwnEs w lo l e hi) {j : Nat} {x : SI} (hx : l[j]? = some x) : ∃ u, e[j]? = some (x.1, u) ∧ OwnI u x.2 w := by
  induction l generalizing lo e j with
  | nil => simp at hx
  | cons y l ih =>
    cases e with
    | nil => exact h.elim
    | cons p e =>
      obtain ⟨m, h1, h2, h3, h4, h5⟩ := h
      cases j with
      | zero =>
        have : y = x := by simpa using hx
        subst this
        exact ⟨p.2, by rw [← h2]; rfl, own_zero h3⟩
      | succ j => exact ih h5 (by simpa using hx)
/-- such a slice, of the call's own: its cells and limbs lie between lo and hi -/
def OwnL (v : Value) (l : List SI) (lo hi : Nat) (w : World) : Prop :=
  ∃ g e, v = .slice (some ⟨g, 0, none⟩) l.length l.length ∧ lo ≤ g ∧ g < hi ∧ hi ≤ w.heap.size ∧ w.ownsRow lo 30 2 v l.length (flatC e) ∧ OwnEs w (g + 1) l e hi
theorem OwnL.stays {v : Value} {l : List SI} {lo hi : Nat} {w w' : World} (h : OwnL v l lo hi w) (hk : ∀ i, lo ≤ i → i < hi → w'.heap[i]? = w.heap[i]?) (hz : w.heap.size ≤ w'.heap.size) : OwnL v l lo hi w' := by
  obtain ⟨g, e, rfl, h1, h2, h3, h4, h5⟩ := h
  exact ⟨g, e, rfl, h1, h2, Nat.le_trans h3 hz, own_stays h4 fun i hi => by cases hi; exact hk g h1 h2, h5.stays fun i hi hi2 => hk i (by omega) hi2⟩
theorem OwnL.below {v : Value} {l : List SI} {lo hi : Nat} {w w' : World} (h : OwnL v l lo hi w) (hb : Below w.heap.size w w') : OwnL v l lo hi w' := by
  have hh := h
  obtain ⟨_, _, _, _, _, h3, _, _⟩ := hh
  exact h.stays (fun i _ hi => hb.block i (by omega)) hb.size
theorem OwnL.rd {v : Value} {l : List SI} {lo hi : Nat} {w : World} (h : OwnL v l lo hi w) : RdL w v l := by
  obtain ⟨g, e, rfl, h1, h2, h3, h4, h5⟩ := h
  refine ⟨_, _, rfl, fun j x hj => ?_⟩
  have hjl := (List.getElem?_eq_some_iff.1 hj).1
  obtain ⟨u, he, ho⟩ := h5.at_ hj
  have hf := flatC_get he
  refine ⟨⟨g, 0, none⟩, u, rfl, by show g < _; omega, ?_, ?_, ho.row⟩
  · have := h4.cellAt (j * 2) (by omega)
    rw [hf.1] at this
    rw [add_own]
    exact this
  · have := h4.cellAt (j * 2 + 1) (by omega)
    rw [hf.2] at this
    rw [add_own]
    exact this

theorem signedInfo : (Tryd.prog.info? 30).map (fun i => (i.zero, i.size, i.bytes)) = some (some (.agg #[.bool false, .slice none 0 0]), 2, 32) := by kernel_rfl
theorem make_signed (n : Nat) (hn : n ≤ 1099511627776) (W : World) :
    (Instr.makeSlice 91 (.int .i64 (n : Int)) (.int .i64 (n : Int))).run Tryd.prog W = .ok (.slice (some ⟨W.heap.size, 0, none⟩) n n) (W.alloc (.cells (madeCells #[.bool false, .slice none 0 0] (n * 2)) 30)) := by
  obtain ⟨i0, hi, hz0, hz1, hz2⟩ := info_parts signedInfo
  have h := run_make (P := Tryd.prog) W 91 30 i0 (.agg #[.bool false, .slice none 0 0]) Tryd.underlying91 hi hz0 .i64 .i64 (n : Int) (n : Int) (by omega) (by omega) (by rw [hz2]; omega) (by omega)
  rw [hz1, Int.toNat_natCast] at h
  exact h
/-- a new slice of signed numbers -/
def NewL (l : List SI) (w : World) (e : Ending) (w' : World) : Prop := ∃ v, e = .returned v ∧ OwnL v l w.heap.size w'.heap.size w' ∧ Below w.heap.size w w'


/-- the blocks from lo on, ahead of hi -/
def rangeB (lo hi : Nat) : List Nat := List.range' lo (hi - lo)
theorem mem_rangeB {lo hi g : Nat} (h : lo ≤ g) (h2 : g < hi) : g ∈ rangeB lo hi := by
  unfold rangeB
  rw [List.mem_range'_1]
  omega
theorem rangeB_mem {lo hi g : Nat} (h : g ∈ rangeB lo hi) : lo ≤ g ∧ g < hi := by
  unfold rangeB at h
  rw [List.mem_range'_1] at h
  omega
theorem Chg.grown {S : List Nat} {w w1 w2 : World} {v : Value} (h : Chg S w w1) (hg : w1.grownBy w2 v.ownBlock) (hS : ∀ b, v.ownBlock = some b → b ∈ S) : Chg S w w2 :=
  h.trans ((Chg.of_grown hg).more fun g hg => hS g (by simpa using hg))
end Go.Proofs.YtcenmdiblbooeaaDoor

namespace Go.Proofs.YtcenmdiblbooeaaDoor
open Go.RowKit

/-- a slice that reads as these numbers, their limbs of the call's own -/
def OwnR (w : World) (v : Value) (l : List SI) : Prop :=
  ∃ A c, v = .slice A l.length c ∧ ∀ (j : Nat) x, l[j]? = some x → ∃ a u, A = some a ∧ a.block < w.heap.size ∧ w.cell? (a.add (j * 2)) = some (.bool x.1) ∧ w.cell? ⟨(a.add (j * 2)).block, (a.add (j * 2)).off + 1, none⟩ = some u ∧ OwnI u x.2 w
theorem OwnL.ownR {v : Value} {l : List SI} {lo hi : Nat} {w : World} (h : OwnL v l lo hi w) : OwnR w v l := by
  obtain ⟨g, e, rfl, h1, h2, h3, h4, h5⟩ := h
  refine ⟨_, _, rfl, fun j x hj => ?_⟩
  have hjl := (List.getElem?_eq_some_iff.1 hj).1
  obtain ⟨u, he, ho⟩ := h5.at_ hj
  have hf := flatC_get he
  refine ⟨⟨g, 0, none⟩, u, rfl, by show g < _; omega, ?_, ?_, ho⟩
  · have := h4.cellAt (j * 2) (by omega)
    rw [hf.1] at this
    rw [add_own]
    exact this
  · have := h4.cellAt (j * 2 + 1) (by omega)
    rw [hf.2] at this
    rw [add_own]
    exact this
theorem OwnR.rd {v : Value} {l : List SI} {w : World} (h : OwnR w v l) : RdL w v l := by
  obtain ⟨A, c, rfl, h⟩ := h
  refine ⟨A, c, rfl, fun j x hj => ?_⟩
  obtain ⟨a, u, rfl, h1, h2, h3, h4⟩ := h j x hj
  exact ⟨a, u, rfl, h1, h2, h3, h4.row⟩
def foldS (l : List SI) : SI := l.foldl addS zeroS
theorem foldS_snoc (l : List SI) (x : SI) : foldS (l ++ [x]) = addS (foldS l) x := by unfold foldS; rw [List.foldl_append]; rfl
theorem addS_len (x y : SI) : (addS x y).2.length ≤ 50 := by unfold addS; split; exact ofZ_len _; exact Nat.zero_le _
theorem foldS_len (l : List SI) : (foldS l).2.length ≤ 50 := by
  rcases List.eq_nil_or_concat l with rfl | ⟨r, x, rfl⟩
  · exact Nat.zero_le _
  · rw [List.concat_eq_append, foldS_snoc]; exact addS_len _ _
theorem sumS_ok {l : List SI} (h : l.all okS = true) : sumS l = foldS l := by unfold sumS; rw [if_pos h]; rfl
theorem sumS_bad {l : List SI} {j : Nat} {x : SI} (hx : l[j]? = some x) (h : ¬ okS x = true) : sumS l = zeroS := by
  unfold sumS
  rw [if_neg]
  intro ha
  rw [List.all_eq_true] at ha
  exact h (ha x (List.mem_of_getElem? hx))
theorem take_snoc {l : List SI} {k : Nat} {x : SI} (h : l[k]? = some x) : l.take (k + 1) = l.take k ++ [x] := by
  have hj := (List.getElem?_eq_some_iff.1 h).1
  rw [List.take_succ_eq_append_getElem hj, (List.getElem?_eq_some_iff.1 h).2]
theorem all_snoc {l : List SI} {k : Nat} {x : SI} (h : l[k]? = some x) (ha : (l.take k).all okS = true) (hx : okS x = true) : (l.take (k + 1)).all okS = true := by
  rw [take_snoc h, List.all_append, ha]
  simp [hx]
theorem set_box {g : Nat} {a b : Value} {c0 c1 : Value} {W : World} (h : BoxAt g #[c0, c1] 30 W) : BoxAt g #[a, b] 30 ((W.setCell ⟨g, 0, none⟩ a).setCell ⟨g, 1, none⟩ b) := swap_box h

set_option maxHeartbeats 2000000 in
set_option maxRecDepth 100000 in
theorem implIntSum_any (v : Value) (l : List SI) (w : World) (hl : l.length ≤ 140737488355328) (hx : ∀ x ∈ l, x.2.length ≤ 1048576) (h : OwnR w v l) :
    Calls Tryd.prog 82 #[v] w (NewS (sumS l) w) := by
  have hbb : Below w.heap.size w ((w.alloc (.cells #[.bool false, .slice none 0 0] 30)).alloc (.cells #[.bool false, .slice none 0 0] 30)) := below_al (below_al (Below.refl _ _) _) _
  have kr := (box_new w #[.bool false, .slice none 0 0] 30).below (below_al (Below.refl _ _) (.cells #[.bool false, .slice none 0 0] 30))
  have ko := box_new (w.alloc (.cells #[.bool false, .slice none 0 0] 30)) #[.bool false, .slice none 0 0] 30
  rw [show (w.alloc (.cells #[.bool false, .slice none 0 0] 30)).heap.size = w.heap.size + 1 by simp] at ko
  obtain ⟨A, c, rfl, hc⟩ := h
  have HC := Lib.hid hc
  clear hc
  obtain ⟨W0, hW0⟩ : ∃ W0, W0 = (w.alloc (.cells #[.bool false, .slice none 0 0] 30)).alloc (.cells #[.bool false, .slice none 0 0] 30) := ⟨_, rfl⟩
  rw [← hW0] at hbb kr ko
  have HW := Lib.hid hW0
  have HKR := Lib.hid kr.here
  have HKO := Lib.hid ko.here
  have HBB := Lib.hid hbb
  clear hW0 kr ko hbb
  go_enter Tryd.func82, Tryd.ntmps82
  go_wp2
  go_loopw [8] (fun i wr => ∃ (k : Nat) (u : Value), k ≤ l.length ∧ i = .int .i64 k ∧ Hid ((l.take k).all okS = true) ∧ Hid (BoxAt (w.heap.size + 1) #[.bool (foldS (l.take k)).1, u] 30 wr) ∧ Hid (wr.ownsRow w.heap.size 3 1 u (foldS (l.take k)).2.length (intsV (foldS (l.take k)).2)) ∧ Hid (BoxAt w.heap.size #[.bool false, .slice none 0 0] 30 wr) ∧ Hid (Below w.heap.size w wr)) (fun i _ => l.length - (intOf i).toNat)
  case atStart =>
    rw [← HW.out]
    exact ⟨0, .slice none 0 0, Nat.zero_le _, rfl, Lib.hid rfl, Lib.hid HKO.out, Lib.hid (World.ownsRow_nil _ _ _ _), HKR, HBB⟩
  case round =>
    obtain ⟨k, u, hk, rfl, HA, HO, HU, HR, HB⟩ := hrel
    have hso : w.heap.size + 1 < wr.heap.size := (Array.getElem?_eq_some_iff.1 HO.out).1
    obtain ⟨Au, cu, rfl⟩ := own_len HU.out
    by_cases hlt : k < l.length
    · obtain ⟨x, hxk⟩ : ∃ x, l[k]? = some x := ⟨_, List.getElem?_eq_getElem hlt⟩
      obtain ⟨a, ux, rfl, ha, hc0, hc1, hox⟩ := HC.out k x hxk
      have hxl := hx x (List.mem_of_getElem? hxk)
      obtain ⟨A1, c1, rfl⟩ := own_len hox
      have k0 : wr.cell? (a.add (k * 2)) = some (.bool x.1) := (HB.out.cell (by rw [block_add]; exact ha)).trans hc0
      have k1 : wr.cell? ⟨(a.add (k * 2)).block, (a.add (k * 2)).off + 1, none⟩ = some (.slice A1 x.2.length c1) := (HB.out.cell (by show (a.add (k * 2)).block < _; rw [block_add]; exact ha)).trans hc1
      have hbx := below_al (Below.refl wr.heap.size wr) (.cells #[.bool x.1, .slice A1 x.2.length c1] 30)
      have kx := box_new wr #[.bool x.1, .slice A1 x.2.length c1] 30
      have ox : (wr.alloc (.cells #[.bool x.1, .slice A1 x.2.length c1] 30)).ownsRow 0 3 1 (.slice A1 x.2.length c1) x.2.length (intsV x.2) := own_below (own_below hox HB.out) hbx
      have ko := (box_at HO.out).below hbx
      have kr := (box_at HR.out).below hbx
      have ou := own_below HU.out hbx
      have hfl := foldS_len (l.take k)
      have HTS := Lib.hid (take_snoc hxk)
      have HFS := Lib.hid (foldS_snoc (l.take k) x)
      have rdx := (OwnS.mk (x := x) (ownI_of ox)).rd
      have HSB := Lib.hid (fun h => sumS_bad hxk h)
      have HAS := Lib.hid (fun h => all_snoc hxk HA.out h)
      generalize foldS (l.take k) = s at *
      by_cases okx : okS x = true
      · go_wp2_with fail
        refine (implIntOk_any _ x _ hxl rdx).mono ?_
        rintro e w1 ⟨rfl, b1⟩
        rw [okx]
        replace kx := kx.below b1
        replace ko := ko.below b1
        replace kr := kr.below b1
        replace ou := own_below ou b1
        replace ox := own_below ox b1
        have bb1 := (HB.out.trans (show Below w.heap.size wr _ from ⟨hbx.os, hbx.tape, hbx.output, hbx.size, fun i hi => hbx.block i (by omega)⟩))
        have bb2 := Below.next bb1 b1
        have cx0 := kx.here.cell 0 _ rfl
        have cx1 := kx.here.cell 1 _ rfl
        have co0 := ko.here.cell 0 _ rfl
        have co1 := ko.here.cell 1 _ rfl
        have HKO2 := Lib.hid ko
        have HKR2 := Lib.hid kr
        have HB2 := Lib.hid bb2
        clear k0 k1 rdx kx ko kr bb1 bb2 hc0 hc1 ha hox
        go_wp2_with fail
        refine (implIntAdd_any _ _ s x _ (by omega) hxl (OwnS.mk (x := s) (ownI_of ou)) (OwnS.mk (x := x) (ownI_of ox))).mono ?_
        rintro e w2 ⟨u2, rfl, o2, b2⟩
        have ko3 := HKO2.out.below b2
        have kr3 := HKR2.out.below b2
        have bb3 := Below.next HB2.out b2
        rw [← HFS.out, ← HTS.out] at o2
        have e2 : addS s x = foldS (l.take (k + 1)) := by rw [HTS.out, HFS.out]
        rw [e2]
        have HALL := Lib.hid (HAS.out okx)
        clear e2 okx
        have hfo : Hid (∀ W : World, Hid (BoxAt (w.heap.size + 1) #[.bool (foldS (l.take (k + 1))).1, u2] 30 W) → Hid (W.ownsRow w.heap.size 3 1 u2 (foldS (l.take (k + 1))).2.length (intsV (foldS (l.take (k + 1))).2)) → Hid (BoxAt w.heap.size #[.bool false, .slice none 0 0] 30 W) → Hid (Below w.heap.size w W) →
          ∃ (k' : Nat) (u : Value), k' ≤ l.length ∧ Value.int .i64 ((k + 1 : Nat) : Int) = .int .i64 k' ∧ Hid ((l.take k').all okS = true) ∧ Hid (BoxAt (w.heap.size + 1) #[.bool (foldS (l.take k')).1, u] 30 W) ∧ Hid (W.ownsRow w.heap.size 3 1 u (foldS (l.take k')).2.length (intsV (foldS (l.take k')).2)) ∧ Hid (BoxAt w.heap.size #[.bool false, .slice none 0 0] 30 W) ∧ Hid (Below w.heap.size w W)) :=
          Lib.hid fun W h1 h2 h3 h4 => ⟨k + 1, u2, by omega, rfl, HALL, h1, h2, h3, h4⟩
        generalize foldS (l.take (k + 1)) = s2 at *
        obtain ⟨A2, c2, rfl⟩ := own_len o2
        have cz0 := ko3.here.cell 0 _ rfl
        have cz1 := ko3.here.cell 1 _ rfl
        have fz0 := Lib.frozen_of_heap ko3.here 0
        have fz1 := Lib.frozen_of_heap ko3.here 1
        have hne := Lib.ownBlock_ne o2 ko3.here (by decide)
        have h1 := set_box (a := .bool s2.1) (b := .slice A2 s2.2.length c2) ko3.here
        have h2 : ((w2.setCell ⟨w.heap.size + 1, 0, none⟩ (.bool s2.1)).setCell ⟨w.heap.size + 1, 1, none⟩ (.slice A2 s2.2.length c2)).ownsRow w.heap.size 3 1 (.slice A2 s2.2.length c2) s2.2.length (intsV s2.2) := own_stays (own_low o2 (by have := HB2.out.size; omega)) fun i hi => by
          have : i ≠ w.heap.size + 1 := fun e => hne (by rw [hi, e])
          exact (Below.heap_setCell _ _ _ _ this).trans (Below.heap_setCell _ _ _ _ this)
        have h3 : BoxAt w.heap.size #[.bool false, .slice none 0 0] 30 ((w2.setCell ⟨w.heap.size + 1, 0, none⟩ (.bool s2.1)).setCell ⟨w.heap.size + 1, 1, none⟩ (.slice A2 s2.2.length c2)) := by
          have hn : w.heap.size ≠ w.heap.size + 1 := by omega
          exact ((Below.heap_setCell _ _ _ _ hn).trans (Below.heap_setCell _ _ _ _ hn)).trans kr3.here
        have h4 : Below w.heap.size w ((w2.setCell ⟨w.heap.size + 1, 0, none⟩ (.bool s2.1)).setCell ⟨w.heap.size + 1, 1, none⟩ (.slice A2 s2.2.length c2)) := below_set2 bb3 (by omega)
        have HREL := Lib.hid (hfo.out _ (Lib.hid h1) (Lib.hid h2) (Lib.hid h3) (Lib.hid h4))
        clear h1 h2 h3 h4 ko3 kr3 bb3 o2 b2 hne cx0 cx1 co0 co1 ou ox
        go_wp2
        go_roundw
        case rel => exact HREL.out
        case measure => simp [intOf]; omega
      · have okx' : okS x = false := by simpa using okx
        go_wp2_with fail
        refine (implIntOk_any _ x _ hxl rdx).mono ?_
        rintro e w1 ⟨rfl, b1⟩
        rw [okx']
        replace kr := kr.below b1
        have bb1 := (HB.out.trans (show Below w.heap.size wr _ from ⟨hbx.os, hbx.tape, hbx.output, hbx.size, fun i hi => hbx.block i (by omega)⟩))
        have bb2 := Below.next bb1 b1
        have cz0 := kr.here.cell 0 _ rfl
        have cz1 := kr.here.cell 1 _ rfl
        have fz0 := Lib.frozen_of_heap kr.here 0
        have fz1 := Lib.frozen_of_heap kr.here 1
        have HV := Lib.hid (HSB.out okx)
        clear k0 k1 rdx kx ko kr hc0 hc1 ha hox ou ox okx okx' bb1
        go_wp2
        refine bodyPost_ret (v := .agg #[.bool false, .slice none 0 0]) (by simp [results, Tryd.results82, go_sem, cz0, cz1]) rfl ?_
        rw [HV.out]
        exact newS_zero (below_set2 bb2 (Nat.le_refl _))
    · obtain rfl : k = l.length := by omega
      have HV := Lib.hid (show sumS l = foldS l from sumS_ok (by have := HA.out; rwa [List.take_length] at this))
      rw [List.take_length] at HO HU
      generalize foldS l = s at *
      have co0 := HO.out.cell 0 _ rfl
      have co1 := HO.out.cell 1 _ rfl
      have cz0 := HR.out.cell 0 _ rfl
      have cz1 := HR.out.cell 1 _ rfl
      have fz0 := Lib.frozen_of_heap HR.out 0
      have fz1 := Lib.frozen_of_heap HR.out 1
      go_wp2
      refine bodyPost_ret (v := .agg #[.bool _, .slice Au _ cu]) (by simp [results, Tryd.results82, go_sem, cz0, cz1]; exact ⟨rfl, rfl⟩) rfl ?_
      rw [HV.out]
      exact newS_ret HR.out HU.out (Nat.le_refl _) (Nat.le_refl _) HB.out
end Go.Proofs.YtcenmdiblbooeaaDoor

namespace Go.Proofs.YtcenmdiblbooeaaDoor
open Go.RowKit

theorem all_two (m n : MI) : [m, n].all (fitM m.1) = bothM m n := by
  simp only [List.all_cons, List.all_nil, Bool.and_true, fitM, bothM]
  rw [show decide (n.1 = m.1) = decide (m.1 = n.1) from decide_eq_decide.2 ⟨Eq.symm, Eq.symm⟩]
  simp [Bool.and_assoc]
theorem sum_two (m n : MI) : sumM m.1 [m, n] = addM m n := by
  unfold sumM addM
  rw [all_two]
  by_cases h : bothM m n = true
  · rw [if_pos h, if_pos h]
    have hm := (okM_parts (bothM_parts h).1).2.1
    show makeM m.1 (addS (addS zeroS m.2) n.2) = _
    rw [addS_zeroL hm]
  · rw [if_neg h, if_neg h]
theorem sum_units {l : List MI} (h : ∀ m ∈ l, okM m = true) : sumS (l.map fun m => m.2) = foldU l := by
  unfold sumS foldU
  rw [if_pos (by rw [List.all_eq_true]; intro x hx; obtain ⟨m, hm, rfl⟩ := List.mem_map.1 hx; exact (okM_parts (h m hm)).2.1), List.foldl_map]
end Go.Proofs.YtcenmdiblbooeaaDoor

namespace Go.Proofs.YtcenmdiblbooeaaDoor
open Go.RowKit

/-- no longer than its room -/
def Roomy (v : Value) : Prop := ∀ A n c, v = .slice A n c → n ≤ c
theorem OwnML.roomy {v : Value} {l : List MI} {lo hi : Nat} {w : World} (h : OwnML v l lo hi w) : Roomy v := by
  obtain ⟨g, e, rfl, _⟩ := h
  intro A n c h
  cases h
  exact Nat.le_refl _
theorem ownMR_take {w : World} {A : Option Addr} {c c' n : Nat} {l : List MI} (h : OwnMR w (.slice A l.length c) l) (hn : n ≤ l.length) : OwnMR w (.slice A n c') (l.take n) := by
  obtain ⟨A', c2, e, h⟩ := h
  cases e
  refine ⟨A, c', by rw [List.length_take, Nat.min_eq_left hn], fun j x hj => h j x ?_⟩
  rw [List.getElem?_take] at hj
  split at hj
  · exact hj
  · cases hj
theorem OwnMR.below {w w' : World} {v : Value} {l : List MI} (h : OwnMR w v l) (hb : Below w.heap.size w w') : OwnMR w' v l := by
  obtain ⟨A, c, rfl, h⟩ := h
  refine ⟨A, c, rfl, fun j x hj => ?_⟩
  obtain ⟨a, u, rfl, h1, h2, h3, h4, h5⟩ := h j x hj
  exact ⟨a, u, rfl, Nat.lt_of_lt_of_le h1 hb.size, (cell_keep3' hb h1 j).trans h2, (cell_keep3 hb h1 j 1).trans h3, (cell_keep3 hb h1 j 2).trans h4, own_below h5 hb⟩
/-- the first elements that belong into the sum -/
def AmtPost (cu : ByteArray) (l : List MI) (w : World) (e : Ending) (w' : World) : Prop :=
  ∃ (n : Nat) (A : Option Addr) (c : Nat), e = .returned (.slice A n c) ∧ n ≤ l.length ∧ OwnMR w' (.slice A n c) (l.take n) ∧ (∀ m ∈ l.take n, fitM cu m = true) ∧ (∀ x, l[n]? = some x → ¬ fitM cu x = true) ∧ Below w.heap.size w w'
set_option maxHeartbeats 4000000 in
set_option maxRecDepth 100000 in
theorem amountsIn_any (cu : ByteArray) (v : Value) (l : List MI) (w : World) (hl : l.length ≤ 140737488355328) (hx : ∀ x ∈ l, x.2.2.length ≤ 1048576) (h : OwnMR w v l) (hr : Roomy v) (ht : CurTab w) :
    Calls Tryd.prog 81 #[.string cu, v] w (AmtPost cu l w) := by
  have HT := Lib.hid ht
  clear ht
  have h0 := h
  obtain ⟨A, c, rfl, hc⟩ := h
  have hcap := hr _ _ _ rfl
  have HO := Lib.hid (show ∀ n W, n ≤ l.length → Below w.heap.size w W → ∀ c', OwnMR W (.slice A n c') (l.take n) from fun n W hn hb c' => ownMR_take (h0.below hb) hn)
  have HC := Lib.hid hc
  clear hc h0 hr
  go_enter Tryd.func81, Tryd.ntmps81
  go_wp2
  go_loopw [5] (fun i wr => ∃ k : Nat, k ≤ l.length ∧ i = .int .i64 k ∧ Hid (∀ m ∈ l.take k, fitM cu m = true) ∧ Below w.heap.size w wr) (fun i _ => l.length - (intOf i).toNat)
  case atStart => exact ⟨0, Nat.zero_le _, rfl, Lib.hid (fun m hm => absurd hm (by simp)), Below.refl _ _⟩
  case round =>
    obtain ⟨k, hk, rfl, HP, hb⟩ := hrel
    have c0 : (0 : Int) ≤ (k : Int) := by omega
    have c1 : (k : Int) ≤ (c : Int) := by omega
    by_cases hlt : k < l.length
    · obtain ⟨x, hxk⟩ : ∃ x, l[k]? = some x := ⟨_, List.getElem?_eq_getElem hlt⟩
      obtain ⟨a, ux, rfl, haa, hc0, hc1, hc2, hox⟩ := HC.out k x hxk
      have hxl := hx x (List.mem_of_getElem? hxk)
      obtain ⟨A1, c1x, rfl⟩ := own_len hox
      have k0 := (cell_keep3' hb haa k).trans hc0
      have k1 := (cell_keep3 hb haa k 1).trans hc1
      have k2 := (cell_keep3 hb haa k 2).trans hc2
      by_cases he : x.1 = cu
      · have hne : (x.1.toList == cu.toList) = true := by rw [he]; exact beq_self_eq_true _
        have OX := Lib.hid (OwnM.below (⟨_, rfl, hox⟩ : OwnM (.agg #[.string x.1, .bool x.2.1, .slice A1 x.2.2.length c1x]) x w) hb)
        have HXK := Lib.hid hxk
        have HE := Lib.hid he
        clear hc0 hc1 hc2 hox hxk haa he
        go_wp2_with fail
        refine (implMoneyOk_any _ x _ hxl OX.out (HT.out.below hb)).mono ?_
        rintro e w1 ⟨rfl, b1⟩
        have bb1 := Below.next hb b1
        clear k0 k1 k2
        by_cases okx : okM x = true
        · have HP2 := Lib.hid (show ∀ m ∈ l.take (k + 1), fitM cu m = true from fun m hm => by
            rw [take_snocM HXK.out] at hm
            rcases List.mem_append.1 hm with hm | hm
            · exact HP.out m hm
            · rw [List.mem_singleton.1 hm]
              unfold fitM
              rw [okx, decide_eq_true HE.out]
              rfl)
          rw [okx]
          clear okx
          go_wp2
          exact ⟨⟨k + 1, by omega, by go_num, HP2, bb1⟩, by simp [intOf]; omega⟩
        · have okx' : okM x = false := by simpa using okx
          have HN := Lib.hid (show ∀ y, l[k]? = some y → ¬ fitM cu y = true from fun y hy => by
            rw [HXK.out] at hy
            cases hy
            unfold fitM
            rw [okx']
            simp)
          rw [okx']
          clear okx okx'
          go_wp2
          go_ret
          exact ⟨k, _, _, rfl, hk, HO.out k _ hk bb1 _, HP.out, HN.out, bb1⟩
      · have hne : (x.1.toList == cu.toList) = false := bytes_neC he
        have HN := Lib.hid (show ∀ y, l[k]? = some y → ¬ fitM cu y = true from fun y hy => by
          rw [hxk] at hy
          cases hy
          unfold fitM
          rw [decide_eq_false he]
          simp)
        clear hc0 hc1 hc2 hox hxk haa he k1 k2
        go_wp2
        go_ret
        exact ⟨k, _, _, rfl, hk, HO.out k _ hk hb _, HP.out, HN.out, hb⟩
    · obtain rfl : k = l.length := by omega
      have HN := Lib.hid (show ∀ y, l[l.length]? = some y → ¬ fitM cu y = true from fun y hy => by simp at hy)
      go_wp2
      go_ret
      exact ⟨_, _, _, rfl, hk, HO.out _ _ hk hb _, HP.out, HN.out, hb⟩
theorem signedInfoM : (Tryd.prog.info? 30).map (fun i => (i.zero, i.size, i.bytes)) = some (some (.agg #[.bool false, .slice none 0 0]), 2, 32) := by kernel_rfl
theorem two_new (w : World) (x y : Value) (t : TypeId) : ∀ (j : Nat) (u : Value), [x, y][j]? = some u → (w.alloc (.cells #[x, y] t)).cell? (Addr.add ⟨w.heap.size, 0, none⟩ j) = some u := by
  intro j u h
  match j, h with
  | 0, h =>
    rw [show (Addr.add ⟨w.heap.size, 0, none⟩ 0) = ⟨w.heap.size, 0, none⟩ from rfl, World.cell?_alloc_at _ _ _ _ rfl]
    simpa using h
  | 1, h =>
    rw [show (Addr.add ⟨w.heap.size, 0, none⟩ 1) = ⟨w.heap.size, 1, none⟩ from rfl, World.cell?_alloc_at _ _ _ _ rfl]
    simpa using h
theorem own_len2 {w : World} {base n size : Nat} {e : TypeId} {v : Value} {xs : List Value} (h : w.ownsRow base e size v n xs) : ∃ A c, v = .slice A n c := by
  rcases h.2 with ⟨rfl, rfl⟩ | ⟨g, cap, cur, rfl, _⟩
  · exact ⟨_, _, rfl⟩
  · exact ⟨_, _, rfl⟩
/-- the units so far: a row of the call's own, whose limbs are the amounts' -/
def UnitRel (l : List MI) (w : World) (v i : Value) (wr : World) : Prop :=
  ∃ (u : Value) (k : Nat) (e : List (Bool × Value)), u = v ∧ k ≤ l.length ∧ i = .int .i64 k ∧ e.length = k ∧ wr.ownsRow w.heap.size 30 2 u k (flatC e) ∧ Hid (∀ (j : Nat) (x : MI) (p : Bool × Value), l[j]? = some x → e[j]? = some p → p.1 = x.2.1 ∧ OwnI p.2 x.2.2 w) ∧ Below w.heap.size w wr
theorem unit_snoc {l : List MI} {e : List (Bool × Value)} {w : World} {x : MI} {u : Value} (hx : l[e.length]? = some x) (ou : OwnI u x.2.2 w)
    (h : ∀ (j : Nat) (x : MI) (p : Bool × Value), l[j]? = some x → e[j]? = some p → p.1 = x.2.1 ∧ OwnI p.2 x.2.2 w) :
    ∀ (j : Nat) (y : MI) (p : Bool × Value), l[j]? = some y → (e ++ [(x.2.1, u)])[j]? = some p → p.1 = y.2.1 ∧ OwnI p.2 y.2.2 w := by
  intro j y p hy hp
  by_cases hj : j < e.length
  · rw [List.getElem?_append_left hj] at hp
    exact h j y p hy hp
  · rw [List.getElem?_append_right (by omega)] at hp
    have hj0 : j - e.length = 0 := by
      have := (List.getElem?_eq_some_iff.1 hp).1
      simp at this
      omega
    rw [hj0] at hp
    obtain rfl : (x.2.1, u) = p := by simpa using hp
    obtain rfl : j = e.length := by omega
    rw [hx] at hy
    cases hy
    exact ⟨rfl, ou⟩
theorem unit_ownR {l : List MI} {e : List (Bool × Value)} {w wr : World} {v : Value} (he : e.length = l.length) (ho : wr.ownsRow w.heap.size 30 2 v l.length (flatC e)) (hb : Below w.heap.size w wr)
    (h : ∀ (j : Nat) (x : MI) (p : Bool × Value), l[j]? = some x → e[j]? = some p → p.1 = x.2.1 ∧ OwnI p.2 x.2.2 w) : OwnR wr v (l.map fun m => m.2) := by
  obtain ⟨hlen, h0 | ⟨g, cap, cur, rfl, hg, hh, hcap, hmx, hsz, htk⟩⟩ := ho
  · obtain ⟨rfl, hl0⟩ := h0
    refine ⟨none, 0, by rw [List.length_map, hl0], fun j x hj => ?_⟩
    have := (List.getElem?_eq_some_iff.1 hj).1
    rw [List.length_map] at this
    omega
  · refine ⟨_, _, by rw [List.length_map], fun j x hj => ?_⟩
    rw [List.getElem?_map] at hj
    obtain ⟨m, hm, rfl⟩ := Option.map_eq_some_iff.1 hj
    have hjl := (List.getElem?_eq_some_iff.1 hm).1
    have hp : e[j]? = some e[j] := List.getElem?_eq_getElem (by omega)
    obtain ⟨h1, h2⟩ := h j m _ hm hp
    have hf := flatC_get hp
    have hgl : g < wr.heap.size := (Array.getElem?_eq_some_iff.1 hh).1
    have hcell : ∀ i u, (flatC e)[i]? = some u → i < l.length * 2 → wr.cell? ⟨g, i, none⟩ = some u := fun i u hi hil => by
      rw [← htk, List.getElem?_take_of_lt hil] at hi
      rw [Lib.cell_of_heap hh]
      simpa using hi
    refine ⟨⟨g, 0, none⟩, (e[j]'(by omega)).2, rfl, hgl, ?_, ?_, own_below h2 hb⟩
    · rw [add_own]
      have := hcell (j * 2) _ hf.1 (by omega)
      rw [h1] at this
      exact this
    · rw [add_own]
      exact hcell (j * 2 + 1) _ hf.2 (by omega)
theorem newS_to {x y : SI} (e : x = y) {w w' : World} {n : Ending} (h : NewS x w n w') : NewV (fun v => OwnS v y) w n w' := e ▸ h.newV
set_option maxHeartbeats 4000000 in
set_option maxRecDepth 100000 in
theorem implMoneySum_any (cu : ByteArray) (v : Value) (l : List MI) (w : World) (hl : l.length ≤ 1099511627776) (hx : ∀ x ∈ l, x.2.2.length ≤ 1048576) (h : OwnMR w v l) (hr : Roomy v) (ht : CurTab w) :
    Calls Tryd.prog 45 #[.string cu, v] w (PostMb (sumM cu l).1 (sumM cu l).2 w) := by
  obtain ⟨i0, hi0, hz0, hz1, hz2⟩ := info_parts signedInfoM
  have HT := Lib.hid ht
  clear ht
  have bb0 : Below w.heap.size w (w.alloc (.cells #[.string ⟨#[]⟩, .bool false, .slice none 0 0] 32)) := below_al (Below.refl _ _) _
  have ko := box_new w #[.string ⟨#[]⟩, .bool false, .slice none 0 0] 32
  have HKO := Lib.hid (ko.lt w.heap.size (by simp))
  have hv := h
  obtain ⟨A0, c0, rfl, _⟩ := hv
  have HOW := Lib.hid (h.below bb0)
  have HR := Lib.hid hr
  clear h hr
  go_enter Tryd.func45, Tryd.ntmps45
  go_wp2_with fail
  refine (amountsIn_any cu _ l _ (by omega) hx HOW.out HR.out (HT.out.below bb0)).mono ?_
  rintro e w1 ⟨n, A, c, rfl, hn, hor, hfit, hbad, b1⟩
  have bb1 := Below.next bb0 b1
  replace ko := ko.below b1
  by_cases hlt : n < l.length
  · obtain ⟨x, hxn⟩ : ∃ x, l[n]? = some x := ⟨_, List.getElem?_eq_getElem hlt⟩
    have HV := Lib.hid (sumM_bad hxn (hbad x hxn))
    clear hor hfit hbad hxn
    have cz0 := ko.here.cell 0 _ rfl
    have cz1 := ko.here.cell 1 _ rfl
    have cz2 := ko.here.cell 2 _ rfl
    have fz0 := Lib.frozen_of_heap ko.here 0
    have fz1 := Lib.frozen_of_heap ko.here 1
    have fz2 := Lib.frozen_of_heap ko.here 2
    clear ko
    go_wp2
    refine bodyPost_ret (v := .tuple #[.agg #[.string ⟨#[]⟩, .bool false, .slice none 0 0], .bool false]) (by simp [results, Tryd.results45, go_sem, cz0, cz1, cz2]) rfl ?_
    rw [HV.out]
    first | exact newMb_zero _ bb1 | exact newMb_zero _ (below_set3 bb1 (Nat.le_refl _))
  · obtain rfl : n = l.length := by omega
    rw [List.take_length] at hor hfit
    have HFIT := Lib.hid hfit
    obtain ⟨A', c', e1, hc⟩ := hor
    cases e1
    have HC := Lib.hid hc
    clear hfit hbad hc hn hlt
    have HB1 := Lib.hid bb1
    have HKO1 := Lib.hid ko
    clear bb1 ko bb0 b1
    go_wp2
    go_loopw [7, 21] (fun uv i wr => UnitRel l w1 uv i wr) (fun _ i _ => l.length - (intOf i).toNat)
    case atStart => exact ⟨_, 0, [], rfl, Nat.zero_le _, rfl, rfl, World.ownsRow_nil _ _ _ _, Lib.hid (fun j x p _ hp => by simp at hp), Below.refl _ _⟩
    case round =>
      obtain ⟨uv, k, e, rfl, hk, rfl, hek, ho, HU, hb⟩ := hrel
      by_cases hlt : k < l.length
      · obtain ⟨x, hxk⟩ : ∃ x, l[k]? = some x := ⟨_, List.getElem?_eq_getElem hlt⟩
        obtain ⟨a, ux, rfl, haa, hc0, hc1, hc2, hox⟩ := HC.out k x hxk
        obtain ⟨A1, c1x, rfl⟩ := own_len hox
        have k0 := (cell_keep3' hb haa k).trans hc0
        have k1 := (cell_keep3 hb haa k 1).trans hc1
        have k2 := (cell_keep3 hb haa k 2).trans hc2
        have HUN := Lib.hid (unit_snoc (by rw [hek]; exact hxk) hox HU.out)
        have hxl := (hx x (List.mem_of_getElem? hxk))
        clear hc0 hc1 hc2 hox hxk haa HU
        have hnew : ∀ (j : Nat) (u : Value), [Value.bool x.2.1, Value.slice A1 x.2.2.length c1x][j]? = some u → ((wr.alloc (.cells #[.string x.1, .bool x.2.1, .slice A1 x.2.2.length c1x] 32)).alloc (.cells #[.bool x.2.1, .slice A1 x.2.2.length c1x] 30)).cell? (Addr.add ⟨wr.heap.size + 1, 0, none⟩ j) = some u := by
          have h := two_new (wr.alloc (.cells #[.string x.1, .bool x.2.1, .slice A1 x.2.2.length c1x] 32)) (.bool x.2.1) (.slice A1 x.2.2.length c1x) 30
          rw [show (wr.alloc (.cells #[.string x.1, .bool x.2.1, .slice A1 x.2.2.length c1x] 32)).heap.size = wr.heap.size + 1 by simp] at h
          exact h
        have hzb := hb.size
        have HB := Lib.hid (show Below w1.heap.size w1 ((wr.alloc (.cells #[.string x.1, .bool x.2.1, .slice A1 x.2.2.length c1x] 32)).alloc (.cells #[.bool x.2.1, .slice A1 x.2.2.length c1x] 30)) from below_al (below_al hb _) _)
        have HLT := Lib.hid (show ∀ b, uv.ownBlock = some b → w1.heap.size ≤ b from fun b hb => (own_lt ho hb).1)
        go_wp2_with (at_builtin; refine wpList_append_own _ rfl _ _ 91 rfl w1.heap.size 30 i0 (.agg #[.bool false, .slice none 0 0]) 2 32 Tryd.underlying91 hi0 hz0 hz1 hz2 rfl (by decide) uv k (flatC e) rfl (own_alloc (own_alloc ho _) _) ⟨wr.heap.size + 1, 0, none⟩ 1 1 [.bool x.2.1, .slice A1 x.2.2.length c1x] rfl rfl hnew ?c2 ?c3 ?c4 ?c5 ?_)
        case c2 => intro u hu; simp at hu; rcases hu with rfl | rfl <;> rfl
        case c3 => unfold maxLen; omega
        case c4 => omega
        case c5 => simp; omega
        intro v2 w2 hown2 hg2 _
        have hb2 : Below w1.heap.size w1 w2 := HB.out.grown hg2 HB.out.size HLT.out
        have hrow2 : w2.ownsRow w1.heap.size 30 2 v2 (k + 1) (flatC (e ++ [(x.2.1, .slice A1 x.2.2.length c1x)])) := by rw [flatC_append]; exact hown2
        have HREL := Lib.hid (show UnitRel l w1 v2 (.int .i64 ((k : Int) + 1)) w2 from ⟨v2, k + 1, _, rfl, by omega, by go_num, by rw [List.length_append, hek]; rfl, hrow2, Lib.hid HUN.out, hb2⟩)
        clear hown2 hg2 hb2 hrow2 HB HLT HUN ho k0 k1 k2 hnew
        go_wp2
        exact ⟨HREL.out, by simp [intOf]; omega⟩
      · obtain rfl : k = l.length := by omega
        obtain ⟨Av, cv, rfl⟩ := own_len2 ho
        have HOR := Lib.hid (unit_ownR hek ho hb HU.out)
        have HV := Lib.hid (show sumM cu l = makeM cu (sumS (l.map fun m => m.2)) by
          unfold sumM
          rw [if_pos (List.all_eq_true.2 HFIT.out), sum_units fun m hm => by
            have := HFIT.out m hm
            unfold fitM at this
            rw [Bool.and_eq_true] at this
            exact this.1])
        have hln : (l.map fun m => m.2).length ≤ 140737488355328 := by rw [List.length_map]; omega
        have hlx : ∀ x ∈ (l.map fun m => m.2), x.2.length ≤ 1048576 := fun x hm => by
          obtain ⟨m, hm2, rfl⟩ := List.mem_map.1 hm
          exact hx m hm2
        have hsz : (sumS (l.map fun m => m.2)).2.length ≤ 1048576 := by
          unfold sumS
          split
          · have := foldS_len (l.map fun m => m.2)
            unfold foldS at this
            omega
          · decide
        have HB3 := Lib.hid (Below.next HB1.out hb)
        have ko3 := HKO1.out.below hb
        have hzr := HKO1.out.lt w.heap.size (by simp)
        have hzr2 := hb.size
        clear ho HU hb hek HC
        obtain ⟨sm, hsm⟩ : ∃ sm, sumS (l.map fun m => m.2) = sm := ⟨_, rfl⟩
        have ESM := Lib.hid hsm
        rw [hsm] at HV hsz
        clear hsm
        obtain ⟨Q, hQ⟩ : ∃ Q, makeM cu sm = Q := ⟨_, rfl⟩
        have EV := Lib.hid hQ
        rw [hQ] at HV
        clear hQ
        go_wp2_with fail
        refine ((implIntSum_any _ (l.map fun m => m.2) _ hln hlx HOR.out).mono fun _ _ h => newS_to ESM.out h).mono ?_
        rintro e2 w3 ⟨us, Ss, rfl, os, ls, b3⟩
        obtain ⟨As, cs, rfl⟩ := ownS_form os.here
        have HB4 := Lib.hid (Below.next HB3.out b3)
        replace ko3 := ko3.below b3
        have hz1 := HB3.out.size
        go_wp2_with fail
        refine ((validMoney_any cu _ sm _ _ hsz os (HT.out.below HB4.out)).mono fun _ _ h => keptM_eq EV.out h).mono ?_
        rintro e3 w4 ⟨uf, Sf, rfl, of, sf, b4⟩
        obtain ⟨Af, cf, rfl⟩ := ownM_form of.here
        have HB5 := Lib.hid (Below.next HB4.out b4)
        replace ko3 := ko3.below b4
        have HW := Lib.hid (newMb_at (r := w.heap.size) (b := Q.2) (B := wr.heap.size) of (fun i hi => ⟨(ls i (sf i hi)).1, of.lt i hi⟩) (by have := HKO.out; omega) (Nat.le_refl _) HB5.out)
        have cz0 := ko3.here.cell 0 _ rfl
        have cz1 := ko3.here.cell 1 _ rfl
        have cz2 := ko3.here.cell 2 _ rfl
        have fz0 := Lib.frozen_of_heap ko3.here 0
        have fz1 := Lib.frozen_of_heap ko3.here 1
        have fz2 := Lib.frozen_of_heap ko3.here 2
        clear of os ko3 ls b3 b4 hln hlx HOR
        go_wp2
        refine bodyPost_ret (v := .tuple #[.agg #[.string _, .bool _, .slice Af _ cf], .bool _]) (by simp [results, Tryd.results45, go_sem, cz0, cz1, cz2]; exact ⟨⟨rfl, rfl, rfl⟩, rfl⟩) rfl ?_
        rw [HV.out]
        exact HW.out
end Go.Proofs.YtcenmdiblbooeaaDoor

namespace Go.Proofs.YtcenmdiblbooeaaDoor
open Go.RowKit

/-- two amounts in one literal -/
theorem ownMR_two {g : Nat} {a b : MI} {ua ub : Value} {T : TypeId} {w : World} (hb : BoxAt g #[.string a.1, .bool a.2.1, ua, .string b.1, .bool b.2.1, ub] T w) (oa : OwnI ua a.2.2 w) (ob : OwnI ub b.2.2 w) : OwnMR w (.slice (some ⟨g, 0, none⟩) 2 2) [a, b] := by
  have hg : g < w.heap.size := (Array.getElem?_eq_some_iff.1 hb).1
  refine ⟨_, _, rfl, fun j x hj => ?_⟩
  match j, hj with
  | 0, hj =>
    obtain rfl : a = x := by simpa using hj
    exact ⟨⟨g, 0, none⟩, ua, rfl, hg, by rw [add_ownM]; exact hb.cell 0 _ rfl, by rw [add_ownM]; exact hb.cell 1 _ rfl, by rw [add_ownM]; exact hb.cell 2 _ rfl, oa⟩
  | 1, hj =>
    obtain rfl : b = x := by simpa using hj
    exact ⟨⟨g, 0, none⟩, ub, rfl, hg, by rw [add_ownM]; exact hb.cell 3 _ rfl, by rw [add_ownM]; exact hb.cell 4 _ rfl, by rw [add_ownM]; exact hb.cell 5 _ rfl, ob⟩
theorem two_len {a b : MI} (ha : a.2.2.length ≤ 1048576) (hb : b.2.2.length ≤ 1048576) : ∀ x ∈ [a, b], x.2.2.length ≤ 1048576 := fun x hx => by
  simp at hx
  rcases hx with rfl | rfl
  · exact ha
  · exact hb
set_option maxHeartbeats 4000000 in
set_option maxRecDepth 100000 in
theorem implMoneyAdd_any (va vb : Value) (a b : MI) (w : World) (hla : a.2.2.length ≤ 1048576) (hlb : b.2.2.length ≤ 1048576) (ha : OwnM va a w) (hb : OwnM vb b w) (ht : CurTab w) :
    Calls Tryd.prog 28 #[va, vb] w (PostMb (addM a b).1 (addM a b).2 w) := by
  have Ha := Lib.hid ha
  obtain ⟨Aa, ca, rfl⟩ := ownM_form ha
  have OMa := Lib.hid (show ∀ W, Below w.heap.size w W → OwnM (.agg #[.string a.1, .bool a.2.1, .slice Aa a.2.2.length ca]) a W from fun W hb => OwnM.below Ha.out hb)
  have OIa := Lib.hid (show ∀ W, Below w.heap.size w W → OwnI (.slice Aa a.2.2.length ca) a.2.2 W from fun W hb => ownM_open (OMa.out W hb))
  have OSa := Lib.hid (show ∀ W, Below w.heap.size w W → OwnS (.agg #[.bool a.2.1, .slice Aa a.2.2.length ca]) a.2 W from fun W hb => OwnS.mk (OIa.out W hb))
  clear ha
  have Hb := Lib.hid hb
  obtain ⟨Ab, cb, rfl⟩ := ownM_form hb
  have OMb := Lib.hid (show ∀ W, Below w.heap.size w W → OwnM (.agg #[.string b.1, .bool b.2.1, .slice Ab b.2.2.length cb]) b W from fun W hb => OwnM.below Hb.out hb)
  have OIb := Lib.hid (show ∀ W, Below w.heap.size w W → OwnI (.slice Ab b.2.2.length cb) b.2.2 W from fun W hb => ownM_open (OMb.out W hb))
  have OSb := Lib.hid (show ∀ W, Below w.heap.size w W → OwnS (.agg #[.bool b.2.1, .slice Ab b.2.2.length cb]) b.2 W from fun W hb => OwnS.mk (OIb.out W hb))
  clear hb
  have HT := Lib.hid ht
  clear ht
  have bb0 : Below w.heap.size w (((w.alloc (.cells #[.string a.1, .bool a.2.1, .slice Aa a.2.2.length ca] 32)).alloc (.cells #[.string b.1, .bool b.2.1, .slice Ab b.2.2.length cb] 32)).alloc (.cells #[.string ⟨#[]⟩, .bool false, .slice none 0 0] 32)) := below_al (below_al (below_al (Below.refl _ _) _) _) _
  have ka := (box_new w #[.string a.1, .bool a.2.1, .slice Aa a.2.2.length ca] 32).below (below_al (below_al (Below.refl _ _) (.cells #[.string b.1, .bool b.2.1, .slice Ab b.2.2.length cb] 32)) (.cells #[.string ⟨#[]⟩, .bool false, .slice none 0 0] 32))
  have kb := (box_new (w.alloc (.cells #[.string a.1, .bool a.2.1, .slice Aa a.2.2.length ca] 32)) #[.string b.1, .bool b.2.1, .slice Ab b.2.2.length cb] 32).below (below_al (Below.refl _ _) (.cells #[.string ⟨#[]⟩, .bool false, .slice none 0 0] 32))
  rw [show (w.alloc (.cells #[.string a.1, .bool a.2.1, .slice Aa a.2.2.length ca] 32)).heap.size = w.heap.size + 1 by simp] at kb
  have ko := (box_new ((w.alloc (.cells #[.string a.1, .bool a.2.1, .slice Aa a.2.2.length ca] 32)).alloc (.cells #[.string b.1, .bool b.2.1, .slice Ab b.2.2.length cb] 32)) #[.string ⟨#[]⟩, .bool false, .slice none 0 0] 32)
  rw [show ((w.alloc (.cells #[.string a.1, .bool a.2.1, .slice Aa a.2.2.length ca] 32)).alloc (.cells #[.string b.1, .bool b.2.1, .slice Ab b.2.2.length cb] 32)).heap.size = w.heap.size + 1 + 1 by simp] at ko
  have HKO := Lib.hid (ko.lt (w.heap.size + 1 + 1) (by simp))
  have EP := sum_two a b
  obtain ⟨P, hP⟩ : ∃ P, addM a b = P := ⟨_, rfl⟩
  rw [hP] at EP ⊢
  clear hP
  have HEP := Lib.hid EP
  clear EP
  have HLE := Lib.hid (two_len hla hlb)
  have kl := box_new (((w.alloc (.cells #[.string a.1, .bool a.2.1, .slice Aa a.2.2.length ca] 32)).alloc (.cells #[.string b.1, .bool b.2.1, .slice Ab b.2.2.length cb] 32)).alloc (.cells #[.string ⟨#[]⟩, .bool false, .slice none 0 0] 32)) #[.string a.1, .bool a.2.1, .slice Aa a.2.2.length ca, .string b.1, .bool b.2.1, .slice Ab b.2.2.length cb] 32
  have hz3 : (((w.alloc (.cells #[.string a.1, .bool a.2.1, .slice Aa a.2.2.length ca] 32)).alloc (.cells #[.string b.1, .bool b.2.1, .slice Ab b.2.2.length cb] 32)).alloc (.cells #[.string ⟨#[]⟩, .bool false, .slice none 0 0] 32)).heap.size = w.heap.size + 1 + 1 + 1 := by simp
  have all := below_al (Below.refl (((w.alloc (.cells #[.string a.1, .bool a.2.1, .slice Aa a.2.2.length ca] 32)).alloc (.cells #[.string b.1, .bool b.2.1, .slice Ab b.2.2.length cb] 32)).alloc (.cells #[.string ⟨#[]⟩, .bool false, .slice none 0 0] 32)).heap.size (((w.alloc (.cells #[.string a.1, .bool a.2.1, .slice Aa a.2.2.length ca] 32)).alloc (.cells #[.string b.1, .bool b.2.1, .slice Ab b.2.2.length cb] 32)).alloc (.cells #[.string ⟨#[]⟩, .bool false, .slice none 0 0] 32))) (.cells #[.string a.1, .bool a.2.1, .slice Aa a.2.2.length ca, .string b.1, .bool b.2.1, .slice Ab b.2.2.length cb] 32)
  have bbl := Below.next bb0 all
  rw [hz3] at kl
  have hzl : ((((w.alloc (.cells #[.string a.1, .bool a.2.1, .slice Aa a.2.2.length ca] 32)).alloc (.cells #[.string b.1, .bool b.2.1, .slice Ab b.2.2.length cb] 32)).alloc (.cells #[.string ⟨#[]⟩, .bool false, .slice none 0 0] 32)).alloc (.cells #[.string a.1, .bool a.2.1, .slice Aa a.2.2.length ca, .string b.1, .bool b.2.1, .slice Ab b.2.2.length cb] 32)).heap.size = w.heap.size + 1 + 1 + 1 + 1 := by simp
  have HOR := Lib.hid (ownMR_two kl.here (OIa.out _ bbl) (OIb.out _ bbl))
  have ka2 := ka.below all
  have kb2 := kb.below all
  have ko2 := ko.below all
  have ka_c0 := ka.here.cell 0 _ rfl
  have ka_c1 := ka.here.cell 1 _ rfl
  have ka_c2 := ka.here.cell 2 _ rfl
  have kb_c0 := kb.here.cell 0 _ rfl
  have kb_c1 := kb.here.cell 1 _ rfl
  have kb_c2 := kb.here.cell 2 _ rfl
  go_enter Tryd.func28, Tryd.ntmps28
  go_wp2_with fail
  clear ka_c0 ka_c1 ka_c2 kb_c0 kb_c1 kb_c2
  clear ka kb ko ka2 kb2 kl all
  refine ((implMoneySum_any a.1 _ [a, b] _ (show 2 ≤ 1099511627776 by omega) HLE.out HOR.out (fun _ _ _ h => by cases h; exact Nat.le_refl _) (HT.out.below bbl)).mono fun _ _ h => postMb_eq HEP.out h).mono ?_
  rintro e w1 ⟨uf, Sf, rfl, of, lf, b1⟩
  obtain ⟨Af, cf, rfl⟩ := ownM_form of.here
  have bb1 := Below.next bbl b1
  have ko := ko2.below b1
  have HW := Lib.hid (newMb_at (r := w.heap.size + 1 + 1) (b := P.2) of lf (by rw [hzl]; omega) (by omega) bb1)
  have cz0 := ko.here.cell 0 _ rfl
  have fz0 := Lib.frozen_of_heap ko.here 0
  have cz1 := ko.here.cell 1 _ rfl
  have fz1 := Lib.frozen_of_heap ko.here 1
  have cz2 := ko.here.cell 2 _ rfl
  have fz2 := Lib.frozen_of_heap ko.here 2
  clear of ko ko2 lf
  go_wp2
  refine bodyPost_ret (v := .tuple #[.agg #[.string _, .bool _, .slice Af _ cf], .bool _]) (by simp [results, Tryd.results28, go_sem, cz0, cz1, cz2]; exact ⟨⟨rfl, rfl, rfl⟩, rfl⟩) rfl ?_
  exact HW.out
set_option maxHeartbeats 4000000 in
set_option maxRecDepth 100000 in
theorem implMoneySub_any (va vb : Value) (a b : MI) (w : World) (hla : a.2.2.length ≤ 1048576) (hlb : b.2.2.length ≤ 1048576) (ha : OwnM va a w) (hb : OwnM vb b w) (ht : CurTab w) :
    Calls Tryd.prog 30 #[va, vb] w (PostMb (subM a b).1 (subM a b).2 w) := by
  have Ha := Lib.hid ha
  obtain ⟨Aa, ca, rfl⟩ := ownM_form ha
  have OMa := Lib.hid (show ∀ W, Below w.heap.size w W → OwnM (.agg #[.string a.1, .bool a.2.1, .slice Aa a.2.2.length ca]) a W from fun W hb => OwnM.below Ha.out hb)
  have OIa := Lib.hid (show ∀ W, Below w.heap.size w W → OwnI (.slice Aa a.2.2.length ca) a.2.2 W from fun W hb => ownM_open (OMa.out W hb))
  have OSa := Lib.hid (show ∀ W, Below w.heap.size w W → OwnS (.agg #[.bool a.2.1, .slice Aa a.2.2.length ca]) a.2 W from fun W hb => OwnS.mk (OIa.out W hb))
  clear ha
  have Hb := Lib.hid hb
  obtain ⟨Ab, cb, rfl⟩ := ownM_form hb
  have OMb := Lib.hid (show ∀ W, Below w.heap.size w W → OwnM (.agg #[.string b.1, .bool b.2.1, .slice Ab b.2.2.length cb]) b W from fun W hb => OwnM.below Hb.out hb)
  have OIb := Lib.hid (show ∀ W, Below w.heap.size w W → OwnI (.slice Ab b.2.2.length cb) b.2.2 W from fun W hb => ownM_open (OMb.out W hb))
  have OSb := Lib.hid (show ∀ W, Below w.heap.size w W → OwnS (.agg #[.bool b.2.1, .slice Ab b.2.2.length cb]) b.2 W from fun W hb => OwnS.mk (OIb.out W hb))
  clear hb
  have HT := Lib.hid ht
  clear ht
  have bb0 : Below w.heap.size w (((w.alloc (.cells #[.string a.1, .bool a.2.1, .slice Aa a.2.2.length ca] 32)).alloc (.cells #[.string b.1, .bool b.2.1, .slice Ab b.2.2.length cb] 32)).alloc (.cells #[.string ⟨#[]⟩, .bool false, .slice none 0 0] 32)) := below_al (below_al (below_al (Below.refl _ _) _) _) _
  have ka := (box_new w #[.string a.1, .bool a.2.1, .slice Aa a.2.2.length ca] 32).below (below_al (below_al (Below.refl _ _) (.cells #[.string b.1, .bool b.2.1, .slice Ab b.2.2.length cb] 32)) (.cells #[.string ⟨#[]⟩, .bool false, .slice none 0 0] 32))
  have kb := (box_new (w.alloc (.cells #[.string a.1, .bool a.2.1, .slice Aa a.2.2.length ca] 32)) #[.string b.1, .bool b.2.1, .slice Ab b.2.2.length cb] 32).below (below_al (Below.refl _ _) (.cells #[.string ⟨#[]⟩, .bool false, .slice none 0 0] 32))
  rw [show (w.alloc (.cells #[.string a.1, .bool a.2.1, .slice Aa a.2.2.length ca] 32)).heap.size = w.heap.size + 1 by simp] at kb
  have ko := (box_new ((w.alloc (.cells #[.string a.1, .bool a.2.1, .slice Aa a.2.2.length ca] 32)).alloc (.cells #[.string b.1, .bool b.2.1, .slice Ab b.2.2.length cb] 32)) #[.string ⟨#[]⟩, .bool false, .slice none 0 0] 32)
  rw [show ((w.alloc (.cells #[.string a.1, .bool a.2.1, .slice Aa a.2.2.length ca] 32)).alloc (.cells #[.string b.1, .bool b.2.1, .slice Ab b.2.2.length cb] 32)).heap.size = w.heap.size + 1 + 1 by simp] at ko
  have HKO := Lib.hid (ko.lt (w.heap.size + 1 + 1) (by simp))
  have hlX := negM_len hlb
  have EP := sub_neg a b
  obtain ⟨⟨X, nb⟩, hX⟩ : ∃ X, negM b = X := ⟨_, rfl⟩
  have EX := Lib.hid hX
  rw [hX] at hlX EP
  clear hX
  dsimp only at hlX EP
  obtain ⟨P, hP⟩ : ∃ P, subM a b = P := ⟨_, rfl⟩
  rw [hP] at EP ⊢
  clear hP
  have HEP := Lib.hid EP
  clear EP
  go_enter Tryd.func30, Tryd.ntmps30
  have kb_c0 := kb.here.cell 0 _ rfl
  have kb_c1 := kb.here.cell 1 _ rfl
  have kb_c2 := kb.here.cell 2 _ rfl
  go_wp2_with fail
  clear kb_c0 kb_c1 kb_c2
  refine ((implMoneyNeg_any _ b _ hlb (OMb.out _ bb0) (HT.out.below bb0)).mono fun _ _ h => postMb_is EX.out h).mono ?_
  rintro e w1 ⟨un, Sn, rfl, on, ln, b1⟩
  obtain ⟨An, cn, rfl⟩ := ownM_form on.here
  have bb1 := Below.next bb0 b1
  replace ka := ka.below b1
  replace kb := kb.below b1
  replace ko := ko.below b1
  have kn := box_new (w1) #[.string X.1, .bool X.2.1, .slice An X.2.2.length cn] 32
  have aln := below_al (Below.refl (w1).heap.size (w1)) (.cells #[.string X.1, .bool X.2.1, .slice An X.2.2.length cn] 32)
  have bbn := Below.next bb1 aln
  replace ka := ka.below aln
  replace kb := kb.below aln
  replace ko := ko.below aln
  replace on := on.below aln
  have ka_c0 := ka.here.cell 0 _ rfl
  have ka_c1 := ka.here.cell 1 _ rfl
  have ka_c2 := ka.here.cell 2 _ rfl
  have kn_c0 := kn.here.cell 0 _ rfl
  have kn_c1 := kn.here.cell 1 _ rfl
  have kn_c2 := kn.here.cell 2 _ rfl
  go_wp2_with fail
  clear ka_c0 ka_c1 ka_c2 kn_c0 kn_c1 kn_c2
  refine ((implMoneyAdd_any _ _ a X _ hla hlX (OMa.out _ bbn) on.here (HT.out.below bbn)).mono fun _ _ h => postMb_eq HEP.out h).mono ?_
  rintro e w2 ⟨uf, Sf, rfl, of, lf, b2⟩
  obtain ⟨Af, cf, rfl⟩ := ownM_form of.here
  have bb2 := Below.next bbn b2
  replace ka := ka.below b2
  replace kb := kb.below b2
  replace ko := ko.below b2
  replace on := on.below b2
  replace kn := kn.below b2
  have HW := Lib.hid (newMb_at (r := w.heap.size + 1 + 1) (b := P.2) of lf (by have := HKO.out; have := b1.size; simp at *; omega) (by omega) bb2)
  have cz0 := ko.here.cell 0 _ rfl
  have fz0 := Lib.frozen_of_heap ko.here 0
  have cz1 := ko.here.cell 1 _ rfl
  have fz1 := Lib.frozen_of_heap ko.here 1
  have cz2 := ko.here.cell 2 _ rfl
  have fz2 := Lib.frozen_of_heap ko.here 2
  clear of ko on kn ka kb lf ln
  go_wp2
  refine bodyPost_ret (v := .tuple #[.agg #[.string _, .bool _, .slice Af _ cf], .bool _]) (by simp [results, Tryd.results30, go_sem, cz0, cz1, cz2]; exact ⟨⟨rfl, rfl, rfl⟩, rfl⟩) rfl ?_
  exact HW.out
end Go.Proofs.YtcenmdiblbooeaaDoor
