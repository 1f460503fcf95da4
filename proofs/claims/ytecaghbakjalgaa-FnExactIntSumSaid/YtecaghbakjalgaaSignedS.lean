/-
  Slices of signed numbers: what laws.toSignedS, eqSignedS, markSignedS and szSignedS return.
-/
import Derived.Test.YtecaghbakjalgaaSigned
import Derived.Deep.RegionHeld3
import Derived.Deep.DeepCutAuto
namespace Go.Proofs.Ytecaghbakjalgaa
open Go.RowKit

/-- a slice that reads as these numbers: an element two cells, its sign and the slice of its limbs -/
def RdL (w : World) (v : Value) (l : List SI) : Prop :=
  ∃ A c, v = .slice A l.length c ∧ ∀ (j : Nat) x, l[j]? = some x → ∃ a u, A = some a ∧ a.block < w.heap.size ∧ w.cell? (a.add (j * 2)) = some (.bool x.1) ∧ w.cell? ⟨(a.add (j * 2)).block, (a.add (j * 2)).off + 1, none⟩ = some u ∧ Row w 0 w.heap.size u (intsV x.2)
theorem RdL.below {w w' : World} {v : Value} {l : List SI} (h : RdL w v l) (hb : Below w.heap.size w w') : RdL w' v l := by
  obtain ⟨A, c, rfl, h⟩ := h
  refine ⟨A, c, rfl, fun j x hj => ?_⟩
  obtain ⟨a, u, rfl, h1, h2, h3, h4⟩ := h j x hj
  exact ⟨a, u, rfl, Nat.lt_of_lt_of_le h1 hb.size, (hb.cell (by rw [block_add]; exact h1)).trans h2, (hb.cell (by show (a.add (j * 2)).block < _; rw [block_add]; exact h1)).trans h3, (h4.below hb (Nat.le_refl _)).wide (Nat.le_refl _) hb.size⟩
/-- how much there is to read -/
def szL : List SI → Int
  | [] => 0
  | x :: l => szS x + szL l
theorem szL_nonneg (l : List SI) : 0 ≤ szL l := by
  induction l with
  | nil => exact Int.le_refl _
  | cons x l ih => show 0 ≤ szS x + szL l; unfold szS szI; omega
theorem szL_append (l r : List SI) : szL (l ++ r) = szL l + szL r := by
  induction l with
  | nil => show szL r = 0 + szL r; omega
  | cons x l ih => show szS x + szL (l ++ r) = szS x + szL l + szL r; rw [ih]; omega
theorem szL_take {l : List SI} {j : Nat} {x : SI} (h : l[j]? = some x) : szL (l.take (j + 1)) = szL (l.take j) + szS x := by
  have hj := (List.getElem?_eq_some_iff.1 h).1
  have e : l[j] = x := (List.getElem?_eq_some_iff.1 h).2
  rw [List.take_succ_eq_append_getElem hj, szL_append, e]
  show _ + (szS x + 0) = _
  omega
theorem szL_take_le (l : List SI) (j : Nat) : szL (l.take j) ≤ szL l := by
  have := szL_append (l.take j) (l.drop j)
  rw [List.take_append_drop] at this
  have := szL_nonneg (l.drop j)
  omega

set_option maxHeartbeats 1000000 in
set_option maxRecDepth 100000 in
theorem szSignedS_any (v : Value) (l : List SI) (left : Int) (w : World) (hl : l.length ≤ 9223372036854775807) (hx : ∀ x ∈ l, x.2.length ≤ 9223372036854775807) (h0 : 0 ≤ left) (h1 : left ≤ 1048576) (h : RdL w v l) :
    Calls Try.prog 39 #[v, .int .i64 left] w fun e w' => e = .returned (.int .i64 (leftI left (l.length + szL l))) ∧ Below w.heap.size w w' := by
  have HR := Lib.hid h
  obtain ⟨A, c, rfl, hc⟩ := h
  by_cases hn : left - l.length < 0
  · have hp := szL_nonneg l
    have HV := Lib.hid (show leftI left (l.length + szL l) = -1 by unfold leftI; rw [if_pos (by omega)])
    clear hp
    go_enter Try.func39, Try.ntmps39
    go_wp2
    go_ret
    exact ⟨ret_int HV.out.symm, Below.refl _ _⟩
  · go_enter Try.func39, Try.ntmps39
    go_wp2
    go_loopw [1, 5] (fun a i wr => ∃ (j : Nat) (z : Int), j ≤ l.length ∧ i = .int .i64 j ∧ a = .int .i64 z ∧ 0 ≤ z ∧ z ≤ 1048576 ∧ Hid (z = left - l.length - szL (l.take j)) ∧ Below w.heap.size w wr) (fun _ i _ => l.length - (intOf i).toNat)
    case atStart => exact ⟨0, left - l.length, by omega, rfl, rfl, by omega, by omega, Lib.hid (by rw [List.take_zero]; show _ = _ - (0 : Int); omega), Below.refl _ _⟩
    case round =>
      obtain ⟨j, z, hj, rfl, rfl, hz0, hz1, HZ, hb⟩ := hrel
      by_cases hlt : j < l.length
      · obtain ⟨x, hxj⟩ : ∃ x, l[j]? = some x := ⟨_, List.getElem?_eq_getElem hlt⟩
        obtain ⟨a, u, rfl, ha, hc0, hc1, hr⟩ := hc j x hxj
        have hxl := hx x (List.mem_of_getElem? hxj)
        have k0 : wr.cell? (a.add (j * 2)) = some (.bool x.1) := (hb.cell (by rw [block_add]; exact ha)).trans hc0
        have k1 : wr.cell? ⟨(a.add (j * 2)).block, (a.add (j * 2)).off + 1, none⟩ = some u := (hb.cell (by show (a.add (j * 2)).block < _; rw [block_add]; exact ha)).trans hc1
        obtain ⟨A1, c1, rfl⟩ := row_form hr
        rw [intsV_length] at hc1 k1 hr
        go_wp2_with fail
        refine (szSigned_at _ x z _ hxl hz0 hz1 (rdS_below hr hb)).mono ?_
        rintro e w1 ⟨rfl, b1⟩
        have bb1 := Below.next hb b1
        have hs0 : 0 ≤ szS x := by unfold szS szI; omega
        have HT := Lib.hid (szL_take hxj)
        have HTL := Lib.hid (szL_take_le l (j + 1))
        clear hc0 hc1 k0 k1 hc hxl hr
        by_cases hv : z - szS x < 0
        · have HV := Lib.hid (show leftI left (l.length + szL l) = -1 by
            have h1 := HT.out
            have h2 := HTL.out
            have h3 := HZ.out
            unfold leftI; rw [if_pos (by omega)])
          rw [show leftI z (szS x) = -1 by unfold leftI; rw [if_pos hv]]
          clear hv hs0
          go_wp2
          go_ret
          exact ⟨ret_int HV.out.symm, bb1⟩
        · rw [show leftI z (szS x) = z - szS x by unfold leftI; rw [if_neg hv]]
          have hnb : decide (z - szS x < 0) = false := decide_eq_false hv
          obtain ⟨z1, hz1e⟩ : ∃ z1, z1 = z - szS x := ⟨_, rfl⟩
          rw [← hz1e] at hnb ⊢
          have HE := Lib.hid (show z1 = left - l.length - szL (l.take (j + 1)) ∧ 0 ≤ z1 ∧ z1 ≤ 1048576 by
            have h1 := HT.out
            have h3 := HZ.out
            omega)
          clear hv hs0 hz1e
          go_wp2
          go_roundw
          case rel => exact ⟨j + 1, z1, by omega, by go_num, rfl, HE.out.2.1, HE.out.2.2, Lib.hid HE.out.1, bb1⟩
          case measure => simp [intOf]; omega
      · obtain rfl : j = l.length := by omega
        have HV := Lib.hid (show leftI left (l.length + szL l) = z by
          have h3 := HZ.out
          rw [List.take_length] at h3
          unfold leftI; rw [if_neg (by omega)]; omega)
        clear hc
        go_wp2
        go_ret
        exact ⟨ret_int HV.out.symm, hb⟩
theorem add_own (g m : Nat) : (⟨g, 0, none⟩ : Addr).add m = ⟨g, m, none⟩ := by
  unfold Addr.add
  split
  · rename_i h; rw [h]
  · simp
/-- the cells of such a slice -/
def flatC : List (Bool × Value) → List Value
  | [] => []
  | p :: r => .bool p.1 :: p.2 :: flatC r
theorem flatC_length (e : List (Bool × Value)) : (flatC e).length = e.length * 2 := by
  induction e with
  | nil => rfl
  | cons p r ih => show (flatC r).length + 1 + 1 = (r.length + 1) * 2; omega
theorem flatC_append (e f : List (Bool × Value)) : flatC (e ++ f) = flatC e ++ flatC f := by
  induction e with
  | nil => rfl
  | cons p r ih => show _ :: _ :: flatC (r ++ f) = _; rw [ih]; rfl
theorem flatC_get {e : List (Bool × Value)} {j : Nat} {p : Bool × Value} (h : e[j]? = some p) : (flatC e)[j * 2]? = some (.bool p.1) ∧ (flatC e)[j * 2 + 1]? = some p.2 := by
  induction e generalizing j with
  | nil => simp at h
  | cons q r ih =>
    cases j with
    | zero =>
      have : q = p := by simpa using h
      subst this
      exact ⟨rfl, rfl⟩
    | succ j =>
      have := ih (j := j) (by simpa using h)
      rw [show (j + 1) * 2 = j * 2 + 1 + 1 by omega]
      exact this
theorem set_two (xs : List Value) (k : Nat) (a b : Value) (h : k * 2 + 1 < xs.length) : ((xs.set (k * 2) a).set (k * 2 + 1) b).take ((k + 1) * 2) = xs.take (k * 2) ++ [a, b] := by
  rw [show (k + 1) * 2 = k * 2 + 1 + 1 by omega, List.take_succ_eq_append_getElem (by simp; omega), List.take_succ_eq_append_getElem (by simp; omega), List.take_set_of_le (by omega), List.take_set_of_le (by omega), List.append_assoc]
  simp
theorem drop_two (xs : List Value) (k : Nat) (a b : Value) : ((xs.set (k * 2) a).set (k * 2 + 1) b).drop ((k + 1) * 2) = xs.drop ((k + 1) * 2) := by
  rw [List.drop_set_of_lt (by omega), List.drop_set_of_lt (by omega)]
/-- the limbs of these numbers, each on blocks of its own, between lo and hi -/
def OwnEs (w : World) : Nat → List SI → List (Bool × Value) → Nat → Prop
  | lo, [], [], hi => lo ≤ hi
  | lo, x :: l, p :: e, hi => ∃ mid, lo ≤ mid ∧ p.1 = x.1 ∧ w.ownsRow lo 3 1 p.2 x.2.length (intsV x.2) ∧ (∀ b, p.2.ownBlock = some b → b < mid) ∧ OwnEs w mid l e hi
  | _, _, _, _ => False
theorem OwnEs.le {w : World} {lo hi : Nat} {l : List SI} {e : List (Bool × Value)} (h : OwnEs w lo l e hi) : lo ≤ hi := by
  induction l generalizing lo e with
  | nil => cases e with | nil => exact h | cons _ _ => exact h.elim
  | cons x l ih => cases e with | nil => exact h.elim | cons p e => obtain ⟨mid, h1, _, _, _, h2⟩ := h; exact Nat.le_trans h1 (ih h2)
theorem OwnEs.length {w : World} {lo hi : Nat} {l : List SI} {e : List (Bool × Value)} (h : OwnEs w lo l e hi) : e.length = l.length := by
  induction l generalizing lo e with
  | nil => cases e with | nil => rfl | cons _ _ => exact h.elim
  | cons x l ih => cases e with | nil => exact h.elim | cons p e => obtain ⟨mid, _, _, _, _, h2⟩ := h; simp [ih h2]
theorem OwnEs.stays {w w' : World} {lo hi : Nat} {l : List SI} {e : List (Bool × Value)} (h : OwnEs w lo l e hi) (hk : ∀ i, lo ≤ i → i < hi → w'.heap[i]? = w.heap[i]?) : OwnEs w' lo l e hi := by
  induction l generalizing lo e with
  | nil => cases e with | nil => exact h | cons _ _ => exact h.elim
  | cons x l ih =>
    cases e with
    | nil => exact h.elim
    | cons p e =>
      obtain ⟨mid, h1, h2, h3, h4, h5⟩ := h
      have hle := h5.le
      exact ⟨mid, h1, h2, own_stays h3 fun i hi => hk i (own_lt h3 hi).1 (Nat.lt_of_lt_of_le (h4 i hi) hle), h4, ih h5 fun i hi hi2 => hk i (by omega) hi2⟩
theorem OwnEs.wide {w : World} {lo hi hi' : Nat} {l : List SI} {e : List (Bool × Value)} (h : OwnEs w lo l e hi) (hh : hi ≤ hi') : OwnEs w lo l e hi' := by
  induction l generalizing lo e with
  | nil => cases e with | nil => exact Nat.le_trans h hh | cons _ _ => exact h.elim
  | cons x l ih => cases e with | nil => exact h.elim | cons p e => obtain ⟨mid, h1, h2, h3, h4, h5⟩ := h; exact ⟨mid, h1, h2, h3, h4, ih h5⟩
theorem OwnEs.snoc {w : World} {lo mid hi : Nat} {l : List SI} {e : List (Bool × Value)} {x : SI} {u : Value} (h : OwnEs w lo l e mid) (o : w.ownsRow mid 3 1 u x.2.length (intsV x.2)) (hu : ∀ b, u.ownBlock = some b → b < hi) (hh : mid ≤ hi) : OwnEs w lo (l ++ [x]) (e ++ [(x.1, u)]) hi := by
  induction l generalizing lo e with
  | nil =>
    cases e with
    | nil =>
      have hm : lo ≤ mid := h
      exact ⟨hi, Nat.le_trans hm hh, rfl, own_low o hm, hu, Nat.le_refl _⟩
    | cons _ _ => exact h.elim
  | cons y l ih => cases e with | nil => exact h.elim | cons p e => obtain ⟨m, h1, h2, h3, h4, h5⟩ := h; exact ⟨m, h1, h2, h3, h4, ih h5⟩
theorem OwnEs.at_ {w : World} {lo hi : Nat} {l : List SI} {e : List (Bool × Value)} (h : OwnEs w lo l e hi) {j : Nat} {x : SI} (hx : l[j]? = some x) : ∃ u, e[j]? = some (x.1, u) ∧ OwnI u x.2 w := by
  induction l generalizing lo e j with
  | nil => simp at hx
  | cons y l ih =>
    cases e with
    | nil => exact h.elim
    | cons p e =>
      obtain ⟨m, h1, h2, h3, h4, h5⟩ := h
      cases j with
      | zero =>
        have : y = x := by simpa using hx
        subst this
        exact ⟨p.2, by rw [← h2]; rfl, own_zero h3⟩
      | succ j => exact ih h5 (by simpa using hx)
/-- such a slice, of the call's own: its cells and limbs lie between lo and hi -/
def OwnL (v : Value) (l : List SI) (lo hi : Nat) (w : World) : Prop :=
  ∃ g e, v = .slice (some ⟨g, 0, none⟩) l.length l.length ∧ lo ≤ g ∧ g < hi ∧ hi ≤ w.heap.size ∧ w.ownsRow lo 27 2 v l.length (flatC e) ∧ OwnEs w (g + 1) l e hi
theorem OwnL.stays {v : Value} {l : List SI} {lo hi : Nat} {w w' : World} (h : OwnL v l lo hi w) (hk : ∀ i, lo ≤ i → i < hi → w'.heap[i]? = w.heap[i]?) (hz : w.heap.size ≤ w'.heap.size) : OwnL v l lo hi w' := by
  obtain ⟨g, e, rfl, h1, h2, h3, h4, h5⟩ := h
  exact ⟨g, e, rfl, h1, h2, Nat.le_trans h3 hz, own_stays h4 fun i hi => by cases hi; exact hk g h1 h2, h5.stays fun i hi hi2 => hk i (by omega) hi2⟩
theorem OwnL.below {v : Value} {l : List SI} {lo hi : Nat} {w w' : World} (h : OwnL v l lo hi w) (hb : Below w.heap.size w w') : OwnL v l lo hi w' := by
  have hh := h
  obtain ⟨_, _, _, _, _, h3, _, _⟩ := hh
  exact h.stays (fun i _ hi => hb.block i (by omega)) hb.size
theorem OwnL.rd {v : Value} {l : List SI} {lo hi : Nat} {w : World} (h : OwnL v l lo hi w) : RdL w v l := by
  obtain ⟨g, e, rfl, h1, h2, h3, h4, h5⟩ := h
  refine ⟨_, _, rfl, fun j x hj => ?_⟩
  have hjl := (List.getElem?_eq_some_iff.1 hj).1
  obtain ⟨u, he, ho⟩ := h5.at_ hj
  have hf := flatC_get he
  refine ⟨⟨g, 0, none⟩, u, rfl, by show g < _; omega, ?_, ?_, ho.row⟩
  · have := h4.cellAt (j * 2) (by omega)
    rw [hf.1] at this
    rw [add_own]
    exact this
  · have := h4.cellAt (j * 2 + 1) (by omega)
    rw [hf.2] at this
    rw [add_own]
    exact this

theorem signedInfo : (Try.prog.info? 27).map (fun i => (i.zero, i.size, i.bytes)) = some (some (.agg #[.bool false, .slice none 0 0]), 2, 32) := by kernel_rfl
theorem make_signed (n : Nat) (hn : n ≤ 1099511627776) (W : World) :
    (Instr.makeSlice 44 (.int .i64 (n : Int)) (.int .i64 (n : Int))).run Try.prog W = .ok (.slice (some ⟨W.heap.size, 0, none⟩) n n) (W.alloc (.cells (madeCells #[.bool false, .slice none 0 0] (n * 2)) 27)) := by
  obtain ⟨i0, hi, hz0, hz1, hz2⟩ := info_parts signedInfo
  have h := run_make (P := Try.prog) W 44 27 i0 (.agg #[.bool false, .slice none 0 0]) Try.underlying44 hi hz0 .i64 .i64 (n : Int) (n : Int) (by omega) (by omega) (by rw [hz2]; omega) (by omega)
  rw [hz1, Int.toNat_natCast] at h
  exact h
/-- a new slice of signed numbers -/
def NewL (l : List SI) (w : World) (e : Ending) (w' : World) : Prop := ∃ v, e = .returned v ∧ OwnL v l w.heap.size w'.heap.size w' ∧ Below w.heap.size w w'
set_option maxHeartbeats 1000000 in
set_option maxRecDepth 100000 in
theorem toSignedS_any (v : Value) (l : List SI) (w : World) (hl : l.length ≤ 1048576) (hx : ∀ x ∈ l, x.2.length ≤ 1048576) (h : RdL w v l) :
    Calls Try.prog 41 #[v] w (NewL l w) := by
  obtain ⟨A, c, rfl, hc⟩ := h
  have HC := Lib.hid hc
  have hmk := make_signed l.length (by omega)
  clear hc
  go_enter Try.func41, Try.ntmps41
  go_wp2
  go_loopw [4] (fun i wr => ∃ (k : Nat) (xs : List Value) (e : List (Bool × Value)), k ≤ l.length ∧ i = .int .i64 k ∧ wr.ownsRow w.heap.size 27 2 (.slice (some ⟨w.heap.size, 0, none⟩) l.length l.length) l.length xs ∧ Hid (xs.take (k * 2) = flatC e) ∧ OwnEs wr (w.heap.size + 1) (l.take k) e wr.heap.size ∧ Below w.heap.size w wr) (fun i _ => l.length - (intOf i).toNat)
  case atStart =>
    have h := World.ownsRow_lit (e := 27) (size := 2) (base := w.heap.size) w (madeCells #[.bool false, .slice none 0 0] (l.length * 2)) l.length (Nat.le_refl _) (by unfold maxLen; omega) (by rw [size_madeCells])
    exact ⟨0, _, [], Nat.zero_le _, rfl, h, Lib.hid (by rw [Nat.zero_mul, List.take_zero]; rfl), by rw [List.take_zero]; show _ ≤ _; simp, (Below.refl _ _).alloc (Nat.le_refl _) _⟩
  case round =>
    obtain ⟨k, xs, e, hk, rfl, ho, HX, hes, hb⟩ := hrel
    by_cases hlt : k < l.length
    · obtain ⟨x, hxk⟩ : ∃ x, l[k]? = some x := ⟨_, List.getElem?_eq_getElem hlt⟩
      obtain ⟨a, u, rfl, ha, hc0, hc1, hr⟩ := HC.out k x hxk
      have hxl := hx x (List.mem_of_getElem? hxk)
      have k0 : wr.cell? (a.add (k * 2)) = some (.bool x.1) := (hb.cell (by rw [block_add]; exact ha)).trans hc0
      have k1 : wr.cell? ⟨(a.add (k * 2)).block, (a.add (k * 2)).off + 1, none⟩ = some u := (hb.cell (by show (a.add (k * 2)).block < _; rw [block_add]; exact ha)).trans hc1
      obtain ⟨A1, c1, rfl⟩ := row_form hr
      rw [intsV_length] at hc1 k1 hr
      go_wp2_with fail
      refine (toSigned_at _ x _ hxl (rdS_below hr hb)).mono ?_
      rintro e' w1 ⟨u1, rfl, o1, b1⟩
      obtain ⟨A2, c2, rfl⟩ := own_len o1
      have bb1 := Below.next hb b1
      have ho1 := own_below ho b1
      have hxs := ho1.1
      have hcell0 := ho1.cellAt (k * 2) (by omega)
      have hcell1 := ho1.cellAt (k * 2 + 1) (by omega)
      rw [List.getElem?_eq_getElem (by omega)] at hcell0 hcell1
      have hfr0 := ho1.frozenAt (k * 2)
      have hfr1 := ho1.frozenAt (k * 2 + 1)
      obtain ⟨ho2, hg2⟩ := ho1.stored (k * 2) (.bool x.1)
      obtain ⟨ho3, hg3⟩ := ho2.stored (k * 2 + 1) (.slice A2 x.2.length c2)
      have hlw : w.heap.size < wr.heap.size := (own_lt ho (g := w.heap.size) rfl).2
      have hes1 := OwnEs.snoc (hi := w1.heap.size) (hes.stays fun i _ hi => b1.block i hi) o1 (fun b hb => (own_lt o1 hb).2) b1.size
      have hes2 : OwnEs ((w1.setCell ⟨w.heap.size, k * 2, none⟩ (.bool x.1)).setCell ⟨w.heap.size, k * 2 + 1, none⟩ (.slice A2 x.2.length c2)) (w.heap.size + 1) (l.take (k + 1)) (e ++ [(x.1, .slice A2 x.2.length c2)]) ((w1.setCell ⟨w.heap.size, k * 2, none⟩ (.bool x.1)).setCell ⟨w.heap.size, k * 2 + 1, none⟩ (.slice A2 x.2.length c2)).heap.size := by
        rw [List.take_succ_eq_append_getElem hlt, (List.getElem?_eq_some_iff.1 hxk).2]
        refine (hes1.stays fun i hi _ => ?_).wide (by simp [World.setCell])
        have hne : i ≠ w.heap.size := by omega
        rw [Below.heap_setCell _ _ _ _ hne, Below.heap_setCell _ _ _ _ hne]
      have hb3 : Below w.heap.size w ((w1.setCell ⟨w.heap.size, k * 2, none⟩ (.bool x.1)).setCell ⟨w.heap.size, k * 2 + 1, none⟩ (.slice A2 x.2.length c2)) := (bb1.setCell (p := ⟨w.heap.size, k * 2, none⟩) (Nat.le_refl _) _).setCell (p := ⟨w.heap.size, k * 2 + 1, none⟩) (Nat.le_refl _) _
      have HF := Lib.hid (show ((xs.set (k * 2) (.bool x.1)).set (k * 2 + 1) (.slice A2 x.2.length c2)).take ((k + 1) * 2) = flatC (e ++ [(x.1, .slice A2 x.2.length c2)]) by
        rw [set_two xs k _ _ (by omega), HX.out, flatC_append]; rfl)
      have H3 := Lib.hid ho3
      have HE2 := Lib.hid hes2
      have HB3 := Lib.hid hb3
      clear hes hes1 hes2 ho ho1 ho2 ho3 hg2 hg3 hb3 o1 k0 k1 hc0 hc1 hr b1 bb1
      go_wp2
      go_roundw
      case rel => exact ⟨k + 1, _, _, by omega, by go_num, H3.out, HF, HE2.out, HB3.out⟩
      case measure => simp [intOf]; omega
    · obtain rfl : k = l.length := by omega
      have hxs := ho.1
      have he : xs = flatC e := by rw [← HX.out, List.take_of_length_le (by omega)]
      rw [List.take_length] at hes
      have hlw : w.heap.size < wr.heap.size := (own_lt ho (g := w.heap.size) rfl).2
      have HO := Lib.hid (show OwnL (.slice (some ⟨w.heap.size, 0, none⟩) l.length l.length) l w.heap.size wr.heap.size wr from ⟨w.heap.size, e, rfl, Nat.le_refl _, hlw, Nat.le_refl _, by rw [← he]; exact ho, hes⟩)
      clear he hes hxs ho
      go_wp2
      go_ret
      exact ⟨_, rfl, HO.out, hb⟩

set_option maxHeartbeats 1000000 in
set_option maxRecDepth 100000 in
theorem eqSignedS_any (va vb : Value) (ss ts : List SI) (w : World) (hl : ss.length ≤ 140737488355328) (hx : ∀ x ∈ ss, x.2.length ≤ 9223372036854775807) (hra : RdL w va ss) (hrb : RdL w vb ts) :
    Calls Try.prog 43 #[va, vb] w fun e w' => e = .returned (.bool (decide (ss = ts))) ∧ Below w.heap.size w w' := by
  obtain ⟨A, c, rfl, hA⟩ := hra
  obtain ⟨B, d, rfl, hB⟩ := hrb
  have HA := Lib.hid hA
  have HB := Lib.hid hB
  clear hA hB
  by_cases hlen : ss.length = ts.length
  · have HL := Lib.hid hlen
    have hbe : ((ss.length : Int) != (ts.length : Int)) = false := by simp [hlen]
    clear hlen
    go_enter Try.func43, Try.ntmps43
    go_wp2
    go_loopw [5] (fun i wr => ∃ k : Nat, k ≤ ss.length ∧ i = .int .i64 k ∧ Below w.heap.size w wr ∧ Hid (ss.take k = ts.take k)) (fun i _ => ss.length - (intOf i).toNat)
    case atStart => exact ⟨0, Nat.zero_le _, rfl, Below.refl _ _, Lib.hid rfl⟩
    case round =>
      obtain ⟨k, hk, rfl, hb, HT⟩ := hrel
      by_cases hlt : k < ss.length
      · have hlt2 : k < ts.length := by have := HL.out; omega
        obtain ⟨a, u, rfl, ha, hc0, hc1, hr⟩ := HA.out k ss[k] (List.getElem?_eq_getElem hlt)
        obtain ⟨b, v, rfl, ha', hd0, hd1, hr'⟩ := HB.out k ts[k] (List.getElem?_eq_getElem hlt2)
        have hxl := hx ss[k] (List.getElem_mem hlt)
        obtain ⟨A1, c1, rfl⟩ := row_form hr
        obtain ⟨B1, d1, rfl⟩ := row_form hr'
        rw [intsV_length] at hc1 hr hd1 hr'
        have HR := Lib.hid hr
        have HR' := Lib.hid hr'
        have HCC := Lib.hid (show a.block < w.heap.size ∧ b.block < w.heap.size ∧ w.cell? (a.add (k * 2)) = some (.bool ss[k].1) ∧ w.cell? ⟨(a.add (k * 2)).block, (a.add (k * 2)).off + 1, none⟩ = some (.slice A1 ss[k].2.length c1) ∧ w.cell? (b.add (k * 2)) = some (.bool ts[k].1) ∧ w.cell? ⟨(b.add (k * 2)).block, (b.add (k * 2)).off + 1, none⟩ = some (.slice B1 ts[k].2.length d1) from ⟨ha, ha', hc0, hc1, hd0, hd1⟩)
        have HTS := Lib.hid (show (ss[k] = ts[k] → ss.take (k + 1) = ts.take (k + 1)) ∧ (¬ ss[k] = ts[k] → ¬ ss = ts) from ⟨take_same_succ HT.out hlt hlt2, ne_of_at hlt hlt2⟩)
        generalize ss[k] = x at *
        generalize ts[k] = y at *
        have KL := Lib.hid (show ∀ W, Below w.heap.size w W → W.cell? (a.add (k * 2)) = some (.bool x.1) ∧ W.cell? ⟨(a.add (k * 2)).block, (a.add (k * 2)).off + 1, none⟩ = some (.slice A1 x.2.length c1) ∧ W.cell? (b.add (k * 2)) = some (.bool y.1) ∧ W.cell? ⟨(b.add (k * 2)).block, (b.add (k * 2)).off + 1, none⟩ = some (.slice B1 y.2.length d1) ∧ Hid (Below w.heap.size w W) from
          fun W hb => by
            obtain ⟨h1, h2, h3, h4, h5, h6⟩ := HCC.out
            exact ⟨(hb.cell (by rw [block_add]; exact h1)).trans h3, (hb.cell (by show (a.add (k * 2)).block < _; rw [block_add]; exact h1)).trans h4, (hb.cell (by rw [block_add]; exact h2)).trans h5, (hb.cell (by show (b.add (k * 2)).block < _; rw [block_add]; exact h2)).trans h6, Lib.hid hb⟩)
        have HB0 := Lib.hid hb
        have HXL := Lib.hid hxl
        clear hb hc0 hc1 hd0 hd1 hr hr' ha ha' hxl HCC
        go_wp2
        go_region_held3 (fun W => W.cell? (a.add (k * 2)) = some (.bool x.1) ∧ W.cell? ⟨(a.add (k * 2)).block, (a.add (k * 2)).off + 1, none⟩ = some (.slice A1 x.2.length c1) ∧ W.cell? (b.add (k * 2)) = some (.bool y.1) ∧ W.cell? ⟨(b.add (k * 2)).block, (b.add (k * 2)).off + 1, none⟩ = some (.slice B1 y.2.length d1) ∧ Hid (Below w.heap.size w W))
          ((refine KL.out _ ?_; (first | exact HB1.out | exact HB0.out.drew | fail)))
          (first
            | (go_at_call 18; (have hBB := (‹_ ∧ _ ∧ _ ∧ _ ∧ Hid (Below w.heap.size w _)›).2.2.2.2); (with_reducible refine (eqSigned_at _ _ x y _ HXL.out (rdS_below HR.out hBB.out) (rdS_below HR'.out hBB.out)).mono ?_); rintro e w1 ⟨rfl, b1⟩; have HB1 := Lib.hid (Below.next hBB.out b1); clear hBB b1))
        by_cases he : x = y
        · have hdt : decide (x = y) = true := decide_eq_true he
          rw [hdt]
          have HE := Lib.hid (HTS.out.1 he)
          clear hdt he
          go_wp2
          go_roundw
          case rel => exact ⟨k + 1, by omega, by go_num, HB1.out, HE⟩
          case measure => simp [intOf]; omega
        · have hdt : decide (x = y) = false := decide_eq_false he
          rw [hdt]
          have HE := Lib.hid (HTS.out.2 he)
          clear hdt he
          go_wp2
          go_ret
          exact ⟨ret_bool (decide_eq_false HE.out).symm, HB1.out⟩
      · go_wp2
        go_ret
        exact ⟨ret_bool (decide_eq_true (same_of_takes HT.out HL.out hlt)).symm, hb⟩
  · have hbe : ((ss.length : Int) != (ts.length : Int)) = true := by simp; omega
    go_enter Try.func43, Try.ntmps43
    go_wp2
    go_ret
    exact ⟨ret_bool (decide_eq_false (fun e => hlen (by rw [e]))).symm, Below.refl _ _⟩

/-- the blocks from lo on, ahead of hi -/
def rangeB (lo hi : Nat) : List Nat := List.range' lo (hi - lo)
theorem mem_rangeB {lo hi g : Nat} (h : lo ≤ g) (h2 : g < hi) : g ∈ rangeB lo hi := by
  unfold rangeB
  rw [List.mem_range'_1]
  omega
theorem rangeB_mem {lo hi g : Nat} (h : g ∈ rangeB lo hi) : lo ≤ g ∧ g < hi := by
  unfold rangeB at h
  rw [List.mem_range'_1] at h
  omega
theorem Chg.grown {S : List Nat} {w w1 w2 : World} {v : Value} (h : Chg S w w1) (hg : w1.grownBy w2 v.ownBlock) (hS : ∀ b, v.ownBlock = some b → b ∈ S) : Chg S w w2 :=
  h.trans ((Chg.of_grown hg).more fun g hg => hS g (by simpa using hg))
set_option maxHeartbeats 1000000 in
set_option maxRecDepth 100000 in
theorem markSignedS_any (v : Value) (l : List SI) (lo hi : Nat) (m : Int) (w : World) (hm : m + l.length + szL l ≤ 9223372036854775807) (hm0 : 0 ≤ m) (h : OwnL v l lo hi w) :
    Calls Try.prog 44 #[v, .int .i64 m] w fun e w' => e = .returned (.int .i64 (m + l.length + szL l)) ∧ Chg (rangeB lo hi) w w' := by
  obtain ⟨g, e, rfl, hg0, hg1, hsz, ho, hes⟩ := h
  have hel := hes.length
  have HEL := Lib.hid hel
  have hln := szL_nonneg l
  go_enter Try.func44, Try.ntmps44
  go_wp2
  go_loopw [1, 5] (fun a i wr => ∃ (k : Nat) (z : Int) (xs : List Value) (mid : Nat), k ≤ l.length ∧ i = .int .i64 k ∧ a = .int .i64 z ∧ Hid (z = m + k + szL (l.take k)) ∧ wr.ownsRow lo 27 2 (.slice (some ⟨g, 0, none⟩) l.length l.length) l.length xs ∧ Hid (xs.drop (k * 2) = flatC (e.drop k)) ∧ g < mid ∧ OwnEs wr mid (l.drop k) (e.drop k) hi ∧ Chg (rangeB lo hi) w wr) (fun _ i _ => l.length - (intOf i).toNat)
  case atStart => exact ⟨0, m, _, g + 1, Nat.zero_le _, rfl, rfl, Lib.hid (by rw [List.take_zero]; show _ = _ + (0 : Int); omega), ho, Lib.hid (by rw [Nat.zero_mul]; rfl), by omega, hes, Chg.refl _ _⟩
  case round =>
    clear ho hes
    obtain ⟨k, z, xs, mid, hk, rfl, rfl, HZ, ho, HX, hgm, hes, hc⟩ := hrel
    by_cases hlt : k < l.length
    · obtain ⟨x, hxk⟩ : ∃ x, l[k]? = some x := ⟨_, List.getElem?_eq_getElem hlt⟩
      have hxs := ho.1
      have HT := Lib.hid (szL_take hxk)
      have HTL := Lib.hid (szL_take_le l (k + 1))
      have HT0 := Lib.hid (szL_nonneg (l.take k))
      rw [List.drop_eq_getElem_cons hlt, List.drop_eq_getElem_cons (l := e) (i := k) (by rw [hel]; exact hlt), (List.getElem?_eq_some_iff.1 hxk).2] at hes
      have hxd := HX.out
      rw [List.drop_eq_getElem_cons (l := e) (by rw [hel]; exact hlt)] at hxd
      obtain ⟨mid2, hm1, hm2, hm3, hm4, hm5⟩ := hes
      generalize e[k]'(by rw [hel]; exact hlt) = p at *
      have hx1 : xs[k * 2 + 1]? = some p.2 := by
        have : (xs.drop (k * 2))[1]? = some p.2 := by rw [hxd]; rfl
        rwa [List.getElem?_drop] at this
      have hxd2 : xs.drop ((k + 1) * 2) = flatC (e.drop (k + 1)) := by
        rw [show (k + 1) * 2 = k * 2 + 2 by omega, ← List.drop_drop, hxd]
        rfl
      have hcell0 := ho.cellAt (k * 2) (by omega)
      rw [List.getElem?_eq_getElem (by omega)] at hcell0
      have hcell1 := ho.cellAt (k * 2 + 1) (by omega)
      rw [hx1] at hcell1
      have hfr0 := ho.frozenAt (k * 2)
      have hb : ∀ b, p.2.ownBlock = some b → b ∈ rangeB lo hi := fun b hb => mem_rangeB (by have := (own_lt hm3 hb).1; omega) (by have := hm4 b hb; have := hm5.le; omega)
      have hzb : 0 ≤ z ∧ z + 1 + szS x ≤ 9223372036854775807 ∧ z + 1 + x.2.length = m + ((k + 1 : Nat) : Int) + szL (l.take (k + 1)) := by
        have h1 := HZ.out
        have h2 := HT.out
        have h3 := HTL.out
        have h4 := HT0.out
        have h5 : szS x = x.2.length := rfl
        omega
      have hs0 : szS x = x.2.length := rfl
      have hz0 : 0 ≤ z := hzb.1
      have hz1 : z + 1 + x.2.length ≤ 9223372036854775807 := by omega
      have HZ2 := Lib.hid hzb.2.2
      obtain ⟨ho1, hg1'⟩ := ho.stored (k * 2) (.bool (z % 3 == 0))
      have hm3' : (wr.setCell ⟨g, k * 2, none⟩ (.bool (z % 3 == 0))).ownsRow mid 3 1 p.2 x.2.length (intsV x.2) := own_stays hm3 fun i hi => Below.heap_setCell _ _ _ _ (by have := (own_lt hm3 hi).1; show i ≠ g; omega)
      have hm5' : OwnEs (wr.setCell ⟨g, k * 2, none⟩ (.bool (z % 3 == 0))) mid2 (l.drop (k + 1)) (e.drop (k + 1)) hi := hm5.stays fun i hi _ => Below.heap_setCell _ _ _ _ (by show i ≠ g; omega)
      have hc' := hc.setCell (p := ⟨g, k * 2, none⟩) (mem_rangeB hg0 hg1) (.bool (z % 3 == 0))
      have hxd3 : (xs.set (k * 2) (.bool (z % 3 == 0))).drop ((k + 1) * 2) = flatC (e.drop (k + 1)) := by rw [List.drop_set_of_lt (by omega)]; exact hxd2
      have HX3 := Lib.hid hxd3
      have H1 := Lib.hid ho1
      have H3 := Lib.hid hm3'
      have H5 := Lib.hid hm5'
      have HC := Lib.hid hc'
      have H4 := Lib.hid hm4
      have HB := Lib.hid hb
      clear ho1 hg1' hm3' hm5' hc' hxd2 hxd3 hxd hm3 hm5 hm4 hb hc hzb HX hx1 HT HTL HT0
      go_wp2_with fail
      refine (markIntS_any p.2 x.2.length (intsV x.2) mid (z + 1) _ (by omega) (by omega) H3.out).mono ?_
      rintro e' w2 ⟨rfl, o2, g2⟩
      have hlt2 := (own_lt H1.out (g := g) rfl).2
      have ho2 : w2.ownsRow lo 27 2 (.slice (some ⟨g, 0, none⟩) l.length l.length) l.length (xs.set (k * 2) (.bool (z % 3 == 0))) := own_stays H1.out fun i hi => by
        cases hi
        refine g2.block g hlt2 (fun e => ?_)
        have := (own_lt H3.out e.symm).1
        omega
      have hes2 : OwnEs w2 mid2 (l.drop (k + 1)) (e.drop (k + 1)) hi := H5.out.stays fun i hi hi2 => by
        refine g2.block i ?_ (fun e => ?_)
        · have := HC.out.size; omega
        · have := H4.out i e.symm; omega
      have hc2 := HC.out.grown g2 HB.out
      have HO2 := Lib.hid ho2
      have HE2 := Lib.hid hes2
      have HC2 := Lib.hid hc2
      clear ho2 hes2 hc2 g2 o2
      go_wp2
      go_roundw
      case rel => exact ⟨k + 1, _, _, mid2, by omega, by go_num, rfl, HZ2, HO2.out, HX3, by omega, HE2.out, HC2.out⟩
      case measure => simp [intOf]; omega
    · obtain rfl : k = l.length := by omega
      have HV := Lib.hid (show m + l.length + szL l = z by
        have h3 := HZ.out
        rw [List.take_length] at h3
        omega)
      go_wp2
      go_ret
      exact ⟨ret_int HV.out.symm, hc⟩
end Go.Proofs.Ytecaghbakjalgaa
