/-
  Values of type impl.Signed: what laws.toSigned, eqSigned, markSigned, heldSigned and szSigned return.
-/
import Derived.Test.YtofehcpapdlcnaaObj
import Derived.Test.YtofehcpapdlcnaaBox
import Derived.Test.YtofehcpapdlcnaaSignPlain
import Derived.Lib.Builder
namespace Go.Proofs.Ytofehcpapdlcnaa
open Go.RowKit

/-- a value that stands for it, its limbs of the call's own -/
def OwnS (v : Value) (x : SI) (w : World) : Prop := ∃ u, v = .agg #[.bool x.1, u] ∧ OwnI u x.2 w
def MarkS (v : Value) (x : SI) (m : Int) (w : World) : Prop := ∃ u, v = .agg #[.bool x.1, u] ∧ MarkI u x.2 m w
/-- a value that reads as it -/
def RdS (w : World) (v : Value) (x : SI) : Prop := ∃ u, v = .agg #[.bool x.1, u] ∧ Row w 0 w.heap.size u (intsV x.2)
def szS (x : SI) : Int := szI x.2
theorem ownI_of {w : World} {base : Nat} {u : Value} {xs : List Int} (h : w.ownsRow base 3 1 u xs.length (intsV xs)) : OwnI u xs w := own_zero h
theorem OwnS.mk {u : Value} {x : SI} {w : World} (h : OwnI u x.2 w) : OwnS (.agg #[.bool x.1, u]) x w := ⟨u, rfl, h⟩
theorem OwnS.rd {v : Value} {x : SI} {w : World} (h : OwnS v x w) : RdS w v x := by
  obtain ⟨u, rfl, o⟩ := h
  exact ⟨u, rfl, o.row⟩
theorem row_form {w : World} {lo hi : Nat} {v : Value} {xs : List Value} (h : Row w lo hi v xs) : ∃ A c, v = .slice A xs.length c := by
  obtain ⟨A, c, rfl, _⟩ := h
  exact ⟨A, c, rfl⟩

/-- a new signed number -/
def NewS (x : SI) (w : World) (e : Ending) (w' : World) : Prop := ∃ u, e = .returned (.agg #[.bool x.1, u]) ∧ w'.ownsRow w.heap.size 3 1 u x.2.length (intsV x.2) ∧ Below w.heap.size w w'
theorem own_low {w : World} {base base' n : Nat} {e : TypeId} {v : Value} {xs : List Value} (h : w.ownsRow base e 1 v n xs) (hb : base' ≤ base) : w.ownsRow base' e 1 v n xs := by
  obtain ⟨hl, h | ⟨g, cap, cur, rfl, hg, r⟩⟩ := h
  · exact ⟨hl, .inl h⟩
  · exact ⟨hl, .inr ⟨g, cap, cur, rfl, by omega, r⟩⟩

/-- what is left of a budget -/
def leftI (left n : Int) : Int := if left - n < 0 then -1 else left - n
set_option maxHeartbeats 400000 in
set_option maxRecDepth 100000 in
theorem szIntS_any (v : Value) (xs : List Int) (lo hi : Nat) (left : Int) (w : World) (hl : xs.length ≤ 9223372036854775807) (h0 : 0 ≤ left) (h1 : left ≤ 1048576) (hr : Row w lo hi v (intsV xs)) :
    Calls Try.prog 19 #[v, .int .i64 left] w fun e w' => e = .returned (.int .i64 (leftI left (szI xs))) ∧ w = w' := by
  obtain ⟨A, c, rfl⟩ := row_form hr
  rw [intsV_length]
  have HZ := Lib.hid (show szI xs = xs.length from rfl)
  by_cases hc : left - xs.length < 0
  · have HV : Hid (leftI left (szI xs) = -1) := Lib.hid (by unfold leftI; rw [HZ.out, if_pos hc])
    have hc2 : left < (xs.length : Int) := by omega
    go_enter Try.func19, Try.ntmps19
    go_wp2
    go_ret
    exact ⟨ret_int HV.out.symm, rfl⟩
  · have HV : Hid (leftI left (szI xs) = left - xs.length) := Lib.hid (by unfold leftI; rw [HZ.out, if_neg hc])
    have hc2 : ¬ left < (xs.length : Int) := by omega
    go_enter Try.func19, Try.ntmps19
    go_wp2
    go_ret
    exact ⟨ret_int HV.out.symm, rfl⟩

set_option maxHeartbeats 400000 in
set_option maxRecDepth 100000 in
theorem eqSigned_at (u v : Value) (x y : SI) (w : World) (hl : x.2.length ≤ 9223372036854775807) (hu : RdS w u x) (hv : RdS w v y) :
    Calls Try.prog 18 #[u, v] w fun e w' => e = .returned (.bool (decide (x = y))) ∧ Below w.heap.size w w' := by
  obtain ⟨xn, xs⟩ := x
  obtain ⟨yn, ys⟩ := y
  obtain ⟨p, rfl, hp⟩ := hu
  obtain ⟨q, rfl, hq⟩ := hv
  obtain ⟨A, c, rfl⟩ := row_form hp
  obtain ⟨B, d, rfl⟩ := row_form hq
  rw [intsV_length] at hp hq ⊢
  rw [intsV_length]
  simp only at hl hp hq ⊢
  by_cases hn : xn = yn
  · subst hn
    have HV : Hid (decide ((xn, xs) = (xn, ys)) = decide (xs = ys)) := Lib.hid (by simp)
    have hbn : (xn != xn) = false := by simp
    go_enter Try.func18, Try.ntmps18
    go_wp2_with fail
    refine (eqIntS_any _ _ xs ys 0 w.heap.size 0 w.heap.size _ hl (hp.below (((Below.refl _ _).alloc (Nat.le_refl _) _).alloc (by simp) _) (Nat.le_refl _)) (hq.below (((Below.refl _ _).alloc (Nat.le_refl _) _).alloc (by simp) _) (Nat.le_refl _))).mono ?_
    rintro e w1 ⟨rfl, n, rfl⟩
    by_cases he : xs = ys
    · rw [decide_eq_true he]
      have HE := Lib.hid he
      clear he
      go_wp2
      go_ret
      exact ⟨ret_bool (by rw [HV.out, decide_eq_true HE.out]), below_drewN (((Below.refl _ _).alloc (Nat.le_refl _) _).alloc (by simp) _) n⟩
    · rw [decide_eq_false he]
      have HE := Lib.hid he
      clear he
      go_wp2
      go_ret
      exact ⟨ret_bool (by rw [HV.out, decide_eq_false HE.out]), below_drewN (((Below.refl _ _).alloc (Nat.le_refl _) _).alloc (by simp) _) n⟩
  · have hbn : (xn != yn) = true := by rw [bne_iff_ne]; exact hn
    have hbe : (xn == yn) = false := by rw [beq_eq_false_iff_ne]; exact hn
    have HV : Hid (decide ((xn, xs) = (yn, ys)) = false) := Lib.hid (decide_eq_false (fun e => hn (by injection e)))
    clear hn
    go_enter Try.func18, Try.ntmps18
    go_wp2
    go_ret
    exact ⟨ret_bool HV.out.symm, ((Below.refl _ _).alloc (Nat.le_refl _) _).alloc (by simp) _⟩

theorem alloc3 (w : World) (a b c : Obj) : (((w.alloc a).alloc b).alloc c).heap[w.heap.size]? = some a ∧ (((w.alloc a).alloc b).alloc c).heap[w.heap.size + 1]? = some b ∧ (((w.alloc a).alloc b).alloc c).heap[w.heap.size + 1 + 1]? = some c ∧ (((w.alloc a).alloc b).alloc c).heap.size = w.heap.size + 3 := by
  have s1 : (w.alloc a).heap.size = w.heap.size + 1 := by simp
  have s2 : ((w.alloc a).alloc b).heap.size = w.heap.size + 1 + 1 := by simp
  have s3 : (((w.alloc a).alloc b).alloc c).heap.size = w.heap.size + 1 + 1 + 1 := by simp
  have n1 := heap_alloc_new w a
  have n2 := heap_alloc_new (w.alloc a) b
  have n3 := heap_alloc_new ((w.alloc a).alloc b) c
  rw [s1] at n2
  rw [s2] at n3
  refine ⟨?_, ?_, n3, by rw [s3]⟩
  · rw [Below.heap_alloc _ _ _ (by omega), Below.heap_alloc _ _ _ (by omega)]; exact n1
  · rw [Below.heap_alloc _ _ _ (by omega)]; exact n2
theorem below3 (w : World) (a b c : Obj) : Below w.heap.size w (((w.alloc a).alloc b).alloc c) := (((Below.refl _ _).alloc (Nat.le_refl _) _).alloc (by simp) _).alloc (by simp; omega) _
set_option maxHeartbeats 400000 in
set_option maxRecDepth 100000 in
theorem toSigned_at (v : Value) (x : SI) (w : World) (hl : x.2.length ≤ 1048576) (h : RdS w v x) :
    Calls Try.prog 13 #[v] w (NewS x w) := by
  obtain ⟨n, xs⟩ := x
  obtain ⟨p, rfl, hp⟩ := h
  obtain ⟨A, c, rfl⟩ := row_form hp
  rw [intsV_length] at hp ⊢
  simp only at hl hp ⊢
  go_enter Try.func13, Try.ntmps13
  go_wp2_with fail
  have h3 := alloc3 w (.cells #[.bool n, .slice A xs.length c] 24) (.cells #[.bool false, .slice none 0 0] 29) (.cells #[.bool n, .slice none 0 0] 29)
  have hb3 := below3 w (.cells #[.bool n, .slice A xs.length c] 24) (.cells #[.bool false, .slice none 0 0] 29) (.cells #[.bool n, .slice none 0 0] 29)
  refine (toIntS_any _ xs 0 w.heap.size _ (by rw [h3.2.2.2]; omega) hl (hp.below hb3 (Nat.le_refl _))).mono ?_
  rintro e w1 ⟨u, rfl, o1, b1⟩
  have hbb : Below w.heap.size w w1 := Below.next hb3 b1
  have k1 := (b1.block (w.heap.size + 1) (by rw [h3.2.2.2]; omega)).trans h3.2.1
  have k2 := (b1.block (w.heap.size + 1 + 1) (by rw [h3.2.2.2]; omega)).trans h3.2.2.1
  have hsz : w.heap.size + 3 ≤ w1.heap.size := by have := b1.size; rw [h3.2.2.2] at this; exact this
  obtain ⟨Au, cu, rfl⟩ := own_len o1
  have c10 : w1.cell? ⟨w.heap.size + 1, 0, none⟩ = some (.bool false) := by rw [Lib.cell_of_heap k1]; rfl
  have c11 : w1.cell? ⟨w.heap.size + 1, 1, none⟩ = some (.slice none 0 0) := by rw [Lib.cell_of_heap k1]; rfl
  have c20 : w1.cell? ⟨w.heap.size + 1 + 1, 0, none⟩ = some (.bool n) := by rw [Lib.cell_of_heap k2]; rfl
  have c21 : w1.cell? ⟨w.heap.size + 1 + 1, 1, none⟩ = some (.slice none 0 0) := by rw [Lib.cell_of_heap k2]; rfl
  have f10 : w1.frozen? ⟨w.heap.size + 1, 0, none⟩ = false := Lib.frozen_of_heap k1 0
  have f11 : w1.frozen? ⟨w.heap.size + 1, 1, none⟩ = false := Lib.frozen_of_heap k1 1
  have f21 : w1.frozen? ⟨w.heap.size + 1 + 1, 1, none⟩ = false := Lib.frozen_of_heap k2 1
  have HO := Lib.hid o1
  have HB := Lib.hid hbb
  have H3 := Lib.hid h3
  clear k1 k2 o1 hbb b1 hb3 h3 hp
  go_wp2
  have hc : Chg [w.heap.size + 1, w.heap.size + 1 + 1] w1 (((w1.setCell ⟨w.heap.size + 1 + 1, 1, none⟩ (.slice Au xs.length cu)).setCell ⟨w.heap.size + 1, 0, none⟩ (.bool n)).setCell ⟨w.heap.size + 1, 1, none⟩ (.slice Au xs.length cu)) :=
    (((Chg.refl _ _).setCell (by simp) _).setCell (by simp) _).setCell (by simp) _
  have hlo : ∀ g ∈ (Value.slice Au xs.length cu).ownBlock.toList, w.heap.size + 3 ≤ g ∧ g < w1.heap.size := fun g hg => by
    have h := own_within HO.out g hg
    rw [H3.out.2.2.2] at h
    exact h
  exact bodyPost_ret (v := .agg #[.bool n, .slice Au xs.length cu]) (by simp [results, Try.results13, go_sem, c10, c11]) rfl
    ⟨.slice Au xs.length cu, rfl, own_stays (own_low HO.out (by rw [H3.out.2.2.2]; omega)) fun g hg => hc.block g (hlo g (by rw [hg]; simp)).2 (fun hm => by have := hlo g (by rw [hg]; simp); simp at hm; omega),
      below_chg HB.out hc (by omega) (fun g hg => by simp at hg; omega)⟩



set_option maxHeartbeats 400000 in
set_option maxRecDepth 100000 in
theorem szSigned_at (v : Value) (x : SI) (left : Int) (w : World) (hl : x.2.length ≤ 9223372036854775807) (h0 : 0 ≤ left) (h1 : left ≤ 1048576) (h : RdS w v x) :
    Calls Try.prog 9 #[v, .int .i64 left] w fun e w' => e = .returned (.int .i64 (leftI left (szS x))) ∧ Below w.heap.size w w' := by
  obtain ⟨n, xs⟩ := x
  obtain ⟨u, rfl, hp⟩ := h
  obtain ⟨A, c, rfl⟩ := row_form hp
  rw [intsV_length] at hp ⊢
  simp only at hl hp ⊢
  have HZ := Lib.hid (show szS (n, xs) = szI xs from rfl)
  have hbx : Below w.heap.size w (w.alloc (.cells #[.bool n, .slice A xs.length c] 24)) := (Below.refl _ _).alloc (Nat.le_refl _) _
  go_enter Try.func9, Try.ntmps9
  go_wp2_with fail
  refine (szIntS_any _ xs 0 w.heap.size left _ hl h0 h1 (hp.below hbx (Nat.le_refl _))).mono ?_
  rintro e w1 ⟨rfl, rfl⟩
  have hv : leftI left (szI xs) < 0 ∧ leftI left (szI xs) = -1 ∨ ¬ leftI left (szI xs) < 0 := by unfold leftI; split <;> omega
  have HL := Lib.hid (show leftI left (szS (n, xs)) = leftI left (szI xs) by rw [HZ.out])
  generalize leftI left (szI xs) = z at *
  rcases hv with ⟨h2, h3⟩ | h2
  · have hneg : decide (z < 0) = true := decide_eq_true h2
    have H3 := Lib.hid h3
    clear h2 h3
    go_wp2
    go_ret
    exact ⟨ret_int (by rw [HL.out, H3.out]), hbx⟩
  · have hneg : decide (z < 0) = false := decide_eq_false h2
    clear h2
    go_wp2
    go_ret
    exact ⟨ret_int (by rw [HL.out]), hbx⟩

/-! ### locals of type impl.Signed: a box, and the limbs that it leads to -/
theorem leftI_of {l n : Int} (h : n ≤ l) : leftI l n = l - n := by unfold leftI; rw [if_neg (by omega)]
theorem below_set2 {W0 W : World} {g : Nat} {a b : Value} (h : Below W0.heap.size W0 W) (hg : W0.heap.size ≤ g) : Below W0.heap.size W0 ((W.setCell ⟨g, 0, none⟩ a).setCell ⟨g, 1, none⟩ b) := (h.setCell (p := ⟨g, 0, none⟩) hg _).setCell (p := ⟨g, 1, none⟩) hg _
theorem own_at' {w : World} {base : Nat} {u : Value} {xs : List Int} (h : w.ownsRow base 3 1 u xs.length (intsV xs)) : At u.ownBlock.toList (OwnI u xs) w := own_at h
/-- a local in its box, with the memory that it leads to -/
def LocS (g : Nat) (u : Value) (x : SI) (W : World) : Prop := BoxAt g #[.bool x.1, u] 29 W ∧ OwnI u x.2 W
def locB (g : Nat) (u : Value) : List Nat := g :: u.ownBlock.toList
theorem LocS.at_ {g : Nat} {u : Value} {x : SI} {W : World} (h : LocS g u x W) : At (locB g u) (LocS g u x) W :=
  ⟨h, fun i hi => by
    rcases List.mem_cons.1 hi with rfl | hi
    · exact (Array.getElem?_eq_some_iff.1 h.1).1
    · exact (own_lt h.2 (by simpa using hi)).2,
    fun w' hk => ⟨(hk g (by simp [locB])).trans h.1, own_stays h.2 fun i hi => hk i (by simp [locB, hi])⟩⟩
/-- a new local: what a statement 'x := f(..)' leaves -/
def NewLoc (x : SI) (W0 : World) (s : Value) (W : World) : Prop := ∃ g u, s = .pointer (some ⟨g, 0, none⟩) ∧ At (locB g u) (LocS g u x) W ∧ Within (locB g u) W0.heap.size W.heap.size ∧ Below W0.heap.size W0 W
theorem newLoc_of {g : Nat} {u : Value} {x : SI} {W0 W : World} {B : Nat} (hb : BoxAt g #[.bool x.1, u] 29 W) (o : W.ownsRow B 3 1 u x.2.length (intsV x.2)) (hB : W0.heap.size ≤ B) (hg : W0.heap.size ≤ g) (hW : Below W0.heap.size W0 W) :
    NewLoc x W0 (.pointer (some ⟨g, 0, none⟩)) W := by
  refine ⟨g, u, rfl, LocS.at_ ⟨hb, own_zero o⟩, fun i hi => ?_, hW⟩
  rcases List.mem_cons.1 hi with rfl | hi
  · exact ⟨hg, (Array.getElem?_eq_some_iff.1 hb).1⟩
  · have := own_lt o (g := i) (by simpa using hi)
    exact ⟨by omega, this.2⟩
theorem newLoc_last {u : Value} {x : SI} {W0 W : World} {B : Nat} (o : W.ownsRow B 3 1 u x.2.length (intsV x.2)) (hB : W0.heap.size ≤ B) (hW : Below W0.heap.size W0 W) :
    NewLoc x W0 (.pointer (some ⟨W.heap.size, 0, none⟩)) (W.alloc (.cells #[.bool x.1, u] 29)) :=
  newLoc_of (heap_alloc_new W _) (own_alloc o _) hB hW.size (below_al hW _)
theorem newLoc_early {g : Nat} {u c0 c1 : Value} {x : SI} {W0 W : World} {B : Nat} (hb : BoxAt g #[c0, c1] 29 W) (o : W.ownsRow B 3 1 u x.2.length (intsV x.2)) (hB : W0.heap.size ≤ B) (hg : W0.heap.size ≤ g) (hW : Below W0.heap.size W0 W) :
    NewLoc x W0 (.pointer (some ⟨g, 0, none⟩)) ((W.setCell ⟨g, 0, none⟩ (.bool x.1)).setCell ⟨g, 1, none⟩ u) := by
  have hne := Lib.ownBlock_ne o hb (by decide)
  have hb' : W.heap[g]? = some (.cells #[c0, c1] 29 (0, 0)) := hb
  refine newLoc_of (B := B) (by simp [BoxAt, World.setCell, Array.getElem?_modify, hb']) (own_stays o fun i hi => ?_) hB hg (below_set2 hW hg)
  have : i ≠ g := fun e => hne (by rw [hi, e])
  exact (Below.heap_setCell _ _ _ _ this).trans (Below.heap_setCell _ _ _ _ this)
/-- a parameter's box: what it holds reads as x, whatever is new -/
theorem rdS_below {w W : World} {A : Option Addr} {c : Nat} {x : SI} (h : Row w 0 w.heap.size (.slice A x.2.length c) (intsV x.2)) (hb : Below w.heap.size w W) : RdS W (.agg #[.bool x.1, .slice A x.2.length c]) x :=
  ⟨_, rfl, (h.below hb (Nat.le_refl _)).wide (Nat.le_refl _) hb.size⟩
end Go.Proofs.Ytofehcpapdlcnaa
