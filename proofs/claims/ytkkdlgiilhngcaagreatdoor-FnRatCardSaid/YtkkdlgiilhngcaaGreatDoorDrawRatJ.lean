/-
  Fractions that a law draws: they are right, and short.
-/
import Derived.Deep.DeepCutAuto
import Derived.Test.YtkkdlgiilhngcaaGreatDoorJ10
namespace Go.Proofs.YtkkdlgiilhngcaaGreatDoor
open Go.RowKit

theorem Cur.below {w w' : World} {g : Nat} {v : Value} {n : Nat} (h : Cur w g v n) (hb : Below w.heap.size w w') : Cur w' g v n := by
  have hlt := h.lt
  obtain ⟨i, k, h1, h2, h3, h4, h5⟩ := h
  exact ⟨i, k, h1, h2, h3, h4, (hb.block g hlt).trans h5⟩
theorem Cur.put {w : World} {g r : Nat} {v : Value} {n j : Nat} {u : Value} (h : Cur w g v n) (hne : g ≠ r) : Cur (w.setCell ⟨r, j, none⟩ u) g v n := by
  obtain ⟨i, k, h1, h2, h3, h4, h5⟩ := h
  exact ⟨i, k, h1, h2, h3, h4, (Below.heap_setCell _ _ _ _ hne).trans h5⟩
theorem Chg.belowNext {T : List Nat} {w w1 w2 : World} (h : Chg T w w1) (hb : Below w1.heap.size w1 w2) : Chg T w w2 := h.trans (Chg.of_below hb)
theorem l01Once_any (m : Int) (g lo hi : Nat) (v : Value) (bs : List Nat) (w : World) (hm : 0 < m) (hm2 : m ≤ 2147483648) (hb : ∀ b ∈ bs, b < 256) (hn : bs.length ≤ 1048576) (hc : Cur w g v bs.length) (hr : Row w lo hi v (bytesV bs)) (hg : hi ≤ g) :
    Calls Tryz.prog 68 #[.pointer (some ⟨g, 0, none⟩), .int .i64 m] w fun e w' => ∃ b : Bool, e = .returned (.bool b) ∧ Cur w' g v bs.length ∧ w.grownBy w' (some g) := by
  have HB := Lib.hid hb
  clear hb
  go_enter Tryz.func68, Tryz.ntmps68
  go_wp2_with fail
  refine (l01Below_any m g lo hi v bs _ hm hm2 HB.out hn hc hr hg).mono ?_
  rintro e w1 ⟨x, _, _, rfl, hc1, hg1⟩
  go_wp2
  go_ret
  exact ⟨_, rfl, hc1, hg1⟩
/-- what a drawn signed number is -/
def DrawSPost (g : Nat) (v : Value) (n : Nat) (w : World) (e : Ending) (w' : World) : Prop :=
  ∃ (u : Value) (x : SI), e = .returned (.agg #[.bool x.1, u]) ∧ okS x = true ∧ x.2.length ≤ 2 ∧ w'.ownsRow w.heap.size 3 1 u x.2.length (intsV x.2) ∧ Cur w' g v n ∧ Chg [g] w w'
theorem drawS_ret {r g n : Nat} {u c0 c1 v : Value} {x : SI} {w W : World} {B : Nat} (hb : BoxAt r #[c0, c1] 25 W) (o : W.ownsRow B 3 1 u x.2.length (intsV x.2)) (hB : w.heap.size ≤ B) (hr : w.heap.size ≤ r) (hg : g < w.heap.size) (ok : okS x = true) (hl : x.2.length ≤ 2) (hc : Cur W g v n) (hW : Chg [g] w W) :
    DrawSPost g v n w (.returned (.agg #[.bool x.1, u])) ((W.setCell ⟨r, 0, none⟩ (.bool x.1)).setCell ⟨r, 1, none⟩ u) := by
  have hne := Lib.ownBlock_ne o hb (by decide)
  refine ⟨u, x, rfl, ok, hl, own_low (own_stays o fun i hi => ?_) hB, (hc.put (by omega)).put (by omega), (hW.setNew (p := ⟨r, 0, none⟩) hr _).setNew (p := ⟨r, 1, none⟩) hr _⟩
  have : i ≠ r := fun e => hne (by rw [hi, e])
  exact (Below.heap_setCell _ _ _ _ this).trans (Below.heap_setCell _ _ _ _ this)
theorem ofZ_small {z : Int} (h0 : -1000 ≤ z) (h1 : z ≤ 1000) : (ofZ z).2.length ≤ 2 := by
  unfold ofZ
  have h := limbs_length_le z.natAbs 1 (by show (z.natAbs : Int) < 1000000000 * 1; omega)
  split
  · exact Nat.le_trans h (by decide)
  · exact Nat.zero_le _
theorem mk_small {n : Bool} {xs : List Int} (ok : natOkB xs = true) (hl : xs.length ≤ 2) : okS (mkS n (trimL xs)) = true ∧ (mkS n (trimL xs)).2.length ≤ 2 := by
  rw [natOk_trim ok]
  have e : mkS n xs = (n && decide (0 < xs.length), xs) := by unfold mkS; rw [capL_short (by omega)]
  rw [e]
  refine ⟨?_, hl⟩
  unfold okS
  rw [ok]
  cases n with
  | false => rfl
  | true => by_cases h : 0 < xs.length <;> simp [h]
set_option maxHeartbeats 1000000 in
set_option maxRecDepth 100000 in
theorem l04Draw_any (g lo hi : Nat) (v : Value) (bs : List Nat) (w : World) (hb : ∀ b ∈ bs, b < 256) (hn : bs.length ≤ 1048576) (hc : Cur w g v bs.length) (hr : Row w lo hi v (bytesV bs)) (hg : hi ≤ g) :
    Calls Tryz.prog 65 #[.pointer (some ⟨g, 0, none⟩), .int .i64 2] w (DrawSPost g v bs.length w) := by
  have HB := Lib.hid hb
  have hgl := hc.lt
  clear hb
  have hbb : Below w.heap.size w (w.alloc (.cells #[.bool false, .slice none 0 0] 25)) := below_al (Below.refl _ _) _
  have kr := box_new w #[.bool false, .slice none 0 0] 25
  obtain ⟨W0, hW0⟩ : ∃ W0, W0 = w.alloc (.cells #[.bool false, .slice none 0 0] 25) := ⟨_, rfl⟩
  rw [← hW0] at hbb kr
  have HW := Lib.hid hW0
  have hc0 := hc.below hbb
  have hr0 := hr.below hbb (by omega)
  have hk0 : Chg [g] w W0 := Chg.of_below hbb
  have hz0 := hbb.size
  clear hW0 hc hr
  go_enter Tryz.func65, Tryz.ntmps65
  go_wp2_with fail
  rw [← HW.out]
  refine (l01Once_any 3 g lo hi v bs _ (by omega) (by omega) HB.out hn hc0 hr0 hg).mono ?_
  rintro e w1 ⟨b, rfl, hc1, hg1⟩
  have hr1 := hr0.far hg1 hg
  have hk1 := hk0.trans (Chg.of_cur hg1)
  have kr1 := kr.chg (Chg.of_cur hg1) (fun i hi hm => by simp at hi hm; omega)
  clear hc0 hr0 hk0 kr hg1
  cases b with
  | true =>
    go_wp2_with fail
    refine (l01Below_any 2001 g lo hi v bs _ (by omega) (by omega) HB.out hn hc1 hr1 hg).mono ?_
    rintro e w2 ⟨x, hx0, hx1, rfl, hc2, hg2⟩
    have hk2 := hk1.trans (Chg.of_cur hg2)
    have kr2 := kr1.chg (Chg.of_cur hg2) (fun i hi hm => by simp at hi hm; omega)
    clear hc1 hr1 hk1 kr1 hg2
    go_wp2_with fail
    refine (specIntOf_any (x - 1000) _ (by omega) (by omega)).mono ?_
    rintro e w3 ⟨u3, rfl, o3, b3⟩
    have HZ := Lib.hid (show okS (ofZ (x - 1000)) = true ∧ (ofZ (x - 1000)).2.length ≤ 2 from ⟨ofZ_ok _, ofZ_small (by omega) (by omega)⟩)
    generalize ofZ (x - 1000) = z at *
    obtain ⟨A3, c3, rfl⟩ := own_len o3
    have kr3 := kr2.below b3
    have hc3 := hc2.below b3
    have hk3 := hk2.belowNext b3
    have cz0 := kr3.here.cell 0 _ rfl
    have cz1 := kr3.here.cell 1 _ rfl
    have fz0 := Lib.frozen_of_heap kr3.here 0
    have fz1 := Lib.frozen_of_heap kr3.here 1
    have HO := Lib.hid o3
    have HK := Lib.hid kr3
    have HC := Lib.hid hc3
    have HG := Lib.hid hk3
    have hz2 := hk2.size
    clear o3 kr3 hc3 hk3 kr2 hc2 hk2 b3
    go_wp2
    refine bodyPost_ret (v := .agg #[.bool _, .slice A3 _ c3]) (by simp [results, Tryz.results65, go_sem, cz0, cz1]; exact ⟨rfl, rfl⟩) rfl ?_
    exact drawS_ret HK.out.here HO.out hz2 (Nat.le_refl _) hgl HZ.out.1 HZ.out.2 HC.out HG.out
  | false =>
    go_wp2_with fail
    refine (l01Once_any 2 g lo hi v bs _ (by omega) (by omega) HB.out hn hc1 hr1 hg).mono ?_
    rintro e w2 ⟨b2, rfl, hc2, hg2⟩
    have hr2 := hr1.far hg2 hg
    have hk2 := hk1.trans (Chg.of_cur hg2)
    have kr2 := kr1.chg (Chg.of_cur hg2) (fun i hi hm => by simp at hi hm; omega)
    clear hc1 hr1 hk1 kr1 hg2
    go_wp2_with fail
    refine (l02Nat_any 2 g lo hi v bs _ (by omega) HB.out hn hc2 hr2 hg).mono ?_
    rintro e w3 ⟨u3, xs, rfl, okx, hlx, o3, hc3, hg3⟩
    have hk3 := hk2.trans hg3
    have kr3 := kr2.chg hg3 (fun i hi hm => by simp at hi hm; omega)
    have HZ := Lib.hid (mk_small (n := b2) okx hlx)
    have hz2 := hk2.size
    clear hc2 hr2 hk2 kr2 hg3 okx
    go_wp2_with fail
    refine (l04Make_any b2 u3 xs _ _ (by omega) o3).mono ?_
    rintro e w4 ⟨u4, rfl, o4, b4⟩
    generalize mkS b2 (trimL xs) = z at *
    obtain ⟨A4, c4, rfl⟩ := own_len o4
    have kr4 := kr3.below b4
    have hc4 := hc3.below b4
    have hk4 := hk3.belowNext b4
    have hz3 := hk3.size
    have cz0 := kr4.here.cell 0 _ rfl
    have cz1 := kr4.here.cell 1 _ rfl
    have fz0 := Lib.frozen_of_heap kr4.here 0
    have fz1 := Lib.frozen_of_heap kr4.here 1
    have HO := Lib.hid o4
    have HK := Lib.hid kr4
    have HC := Lib.hid hc4
    have HG := Lib.hid hk4
    clear o4 kr4 hc4 hk4 kr3 hc3 hk3 b4 o3
    go_wp2
    refine bodyPost_ret (v := .agg #[.bool _, .slice A4 _ c4]) (by simp [results, Tryz.results65, go_sem, cz0, cz1]; exact ⟨rfl, rfl⟩) rfl ?_
    exact drawS_ret HK.out.here HO.out hz3 (Nat.le_refl _) hgl HZ.out.1 HZ.out.2 HC.out HG.out

/-- what a drawn fraction is -/
def DrawQPost (g : Nat) (v : Value) (n : Nat) (w : World) (e : Ending) (w' : World) : Prop :=
  ∃ (u : Value) (q : QI) (S : List Nat), e = .returned u ∧ Bd q 2 ∧ At S (OwnQ u q) w' ∧ Within S w.heap.size w'.heap.size ∧ Cur w' g v n ∧ Chg [g] w w'
theorem makeQ_bd {n : Bool} {xs : List Int} {d : List Int} (h1 : okS (n, xs) = true) (h2 : xs.length ≤ 2) (hd : natOkB d = true) (h3 : d.length ≤ 2) : (makeQ (n, xs) (false, d)).2 = true → Bd (makeQ (n, xs) (false, d)).1 2 := by
  have hx := okS_parts h1
  have l1 := nval_lt xs (natOk_parts hx.1).1
  have l2 := nval_lt d (natOk_parts hd).1
  have m1 := bp_mono h2
  have m2 := bp_mono h3
  have n1 := nval_ok hx.1
  have n2 := nval_ok hd
  have okd : okS (false, d) = true := by unfold okS; rw [hd]; rfl
  have e : makeQ (n, xs) (false, d) = lowQ (n != false) (nval xs).toNat (nval d).toNat := by unfold makeQ; rw [if_pos ⟨h1, okd⟩]
  rw [e]
  intro hok
  by_cases h0 : (nval d).toNat = 0
  · unfold lowQ at hok
    rw [if_neg (fun h => h.1 h0)] at hok
    cases hok
  · exact (low_bd h0 (by omega) (by omega) (by omega)).2.1
theorem oneQ_bd : Bd oneQ 2 := ⟨oneQ_ok, by have := bp_pos 2; show (0 : Int) < _; omega, by show (1 : Int) < bp 2; decide⟩
/-- what is known of memory while a fraction is drawn: the result's box, the numerator's box and limbs, the cursor -/
structure DrawSt (w : World) (g bx lo hi : Nat) (v : Value) (bs : List Nat) (A : Option Addr) (c : Nat) (x : SI) (wx : World) : Prop where
  gl : g < w.heap.size
  hg : hi ≤ g
  bxl : w.heap.size ≤ bx
  kr : At [w.heap.size] (BoxAt w.heap.size #[.bool false, .slice none 0 0, .slice none 0 0] 27) wx
  kx : At [bx] (BoxAt bx #[.bool x.1, .slice A x.2.length c] 25) wx
  al : ∀ i ∈ (Value.slice A x.2.length c).ownBlock.toList, w.heap.size < i
  ox : At (Value.slice A x.2.length c).ownBlock.toList (OwnI (.slice A x.2.length c) x.2) wx
  cur : Cur wx g v bs.length
  row : Row wx lo hi v (bytesV bs)
  chg : Chg [g] w wx
theorem DrawSt.step {w : World} {g bx lo hi : Nat} {v : Value} {bs : List Nat} {A : Option Addr} {c : Nat} {x : SI} {wx w' : World} (h : DrawSt w g bx lo hi v bs A c x wx) (hc : Chg [g] wx w') (hcur : Cur w' g v bs.length) : DrawSt w g bx lo hi v bs A c x w' :=
  have h1 := h.gl
  have h2 := h.hg
  have h3 := h.bxl
  have h4 := h.chg.size
  ⟨h1, h2, h3, h.kr.chg hc (fun i hi hm => by simp at hi hm; omega), h.kx.chg hc (fun i hi hm => by simp at hi hm; omega), h.al, h.ox.chg hc (fun i hi hm => by have := h.al i hi; simp at hm; omega), hcur,
    h.row.stays (fun p hp => World.cell?_of_block (hc.block _ (by omega) (by simp; omega))), h.chg.trans hc⟩
theorem DrawSt.below {w : World} {g bx lo hi : Nat} {v : Value} {bs : List Nat} {A : Option Addr} {c : Nat} {x : SI} {wx w' : World} (h : DrawSt w g bx lo hi v bs A c x wx) (hb : Below wx.heap.size wx w') : DrawSt w g bx lo hi v bs A c x w' :=
  h.step (Chg.of_below hb) (h.cur.below hb)
theorem DrawSt.set {w : World} {g bx lo hi : Nat} {v : Value} {bs : List Nat} {A : Option Addr} {c : Nat} {x : SI} {wx : World} (h : DrawSt w g bx lo hi v bs A c x wx) (p : Addr) (u : Value) (h1 : p.block ≠ bx) (h2 : w.heap.size < p.block) (h3 : ∀ i ∈ (Value.slice A x.2.length c).ownBlock.toList, i ≠ p.block) : DrawSt w g bx lo hi v bs A c x (wx.setCell p u) :=
  have g1 := h.gl
  have g2 := h.hg
  have hc : Chg [p.block] wx (wx.setCell p u) := (Chg.refl _ _).setCell (by simp) _
  ⟨g1, g2, h.bxl, h.kr.chg hc (fun i hi hm => by simp at hi hm; omega), h.kx.chg hc (fun i hi hm => by simp at hi hm; omega), h.al, h.ox.chg hc (fun i hi hm => by have := h3 i hi; simp at hm; omega),
    by obtain ⟨i, k, e1, e2, e3, e4, e5⟩ := h.cur; exact ⟨i, k, e1, e2, e3, e4, (Below.heap_setCell _ _ _ _ (by omega)).trans e5⟩,
    h.row.stays (fun q hq => World.cell?_of_block (Below.heap_setCell _ _ _ _ (by omega))), h.chg.setNew (by omega) _⟩
theorem set_one {g : Nat} {a b c : Value} {T : TypeId} {W : World} (hb : BoxAt g #[a, b] T W) : BoxAt g #[a, c] T (W.setCell ⟨g, 1, none⟩ c) := by
  have hb' : W.heap[g]? = some (.cells #[a, b] T (0, 0)) := hb
  simp [BoxAt, World.setCell, Array.getElem?_modify, hb']
theorem DrawSt.size {w : World} {g bx lo hi : Nat} {v : Value} {bs : List Nat} {A : Option Addr} {c : Nat} {x : SI} {wx : World} (h : DrawSt w g bx lo hi v bs A c x wx) : w.heap.size < wx.heap.size := by
  have := h.kr.lt w.heap.size (by simp)
  exact this
theorem den_one {y : Int} (h0 : 0 ≤ y) (h1 : y < 12) : natOkB (limbs (1 + y).toNat) = true ∧ (limbs (1 + y).toNat).length ≤ 2 := by
  have h : (limbs (1 + y).toNat).length ≤ 1 := limbs_length_le _ 1 (by show ((1 + y).toNat : Int) < 1000000000 * 1; omega)
  exact ⟨limbs_okL _ (by omega), by omega⟩
theorem den_two {xs : List Int} {z : Int} (h : natOkB xs = true) (hl : xs.length ≤ 1) (h0 : 0 ≤ z) (h1 : z < 999) : natOkB (xs ++ [1 + z]) = true ∧ (xs ++ [1 + z]).length ≤ 2 := by
  have hp := natOk_parts h
  refine ⟨?_, by simp; omega⟩
  unfold natOkB
  rw [Bool.and_eq_true, Bool.and_eq_true, decide_eq_true_eq, decide_eq_true_eq, all_dig]
  refine ⟨fun d hd => ?_, by simp; omega, ?_⟩
  · rcases List.mem_append.1 hd with hd | hd
    · exact hp.1 d hd
    · simp at hd; omega
  · rw [List.getLastD_eq_getLast?, List.getLast?_append]
    simp
    omega
theorem small_szS {x : SI} (h : x.2.length ≤ 2) : szS x ≤ 1048576 := by unfold szS szI; omega
theorem drawQ_at {w wx : World} {g n : Nat} {v c0 c1 c2 : Value} {q : QI} {S : List Nat} (hgl : g < w.heap.size) (hq : Bd q 2) (o : At S (OwnQ (.agg #[c0, c1, c2]) q) wx) (l : ∀ i ∈ S, w.heap.size < i ∧ i < wx.heap.size) (hc : Cur wx g v n) (hk : Chg [g] w wx) :
    DrawQPost g v n w (.returned (.agg #[c0, c1, c2])) (((wx.setCell ⟨w.heap.size, 0, none⟩ c0).setCell ⟨w.heap.size, 1, none⟩ c1).setCell ⟨w.heap.size, 2, none⟩ c2) := by
  have hc3 : Chg [w.heap.size] wx (((wx.setCell ⟨w.heap.size, 0, none⟩ c0).setCell ⟨w.heap.size, 1, none⟩ c1).setCell ⟨w.heap.size, 2, none⟩ c2) := (((Chg.refl _ _).setCell (by simp) _).setCell (by simp) _).setCell (by simp) _
  have hz := hc3.size
  have h1 := hk.size
  exact ⟨_, q, S, rfl, hq, o.chg hc3 (fun i hi hm => by have := (l i hi).1; simp at hm; omega), fun i hi => by have := l i hi; exact ⟨by omega, by omega⟩,
    ((hc.put (by omega)).put (by omega)).put (by omega), ((hk.setNew (p := ⟨w.heap.size, 0, none⟩) (Nat.le_refl _) _).setNew (p := ⟨w.heap.size, 1, none⟩) (Nat.le_refl _) _).setNew (p := ⟨w.heap.size, 2, none⟩) (Nat.le_refl _) _⟩
set_option maxHeartbeats 2000000 in
set_option maxRecDepth 100000 in
theorem l05Draw_any (g lo hi : Nat) (v : Value) (bs : List Nat) (w : World) (hb : ∀ b ∈ bs, b < 256) (hn : bs.length ≤ 1048576) (hc : Cur w g v bs.length) (hr : Row w lo hi v (bytesV bs)) (hg : hi ≤ g) :
    Calls Tryz.prog 26 #[.pointer (some ⟨g, 0, none⟩), .int .i64 2] w (DrawQPost g v bs.length w) := by
  obtain ⟨i0, hi0, hz0, hz1, hz2⟩ := info_parts intInfo
  have HB := Lib.hid hb
  have hgl := hc.lt
  clear hb
  have hbb : Below w.heap.size w (w.alloc (.cells #[.bool false, .slice none 0 0, .slice none 0 0] 27)) := below_al (Below.refl _ _) _
  have kr := box_new w #[.bool false, .slice none 0 0, .slice none 0 0] 27
  obtain ⟨W0, hW0⟩ : ∃ W0, W0 = w.alloc (.cells #[.bool false, .slice none 0 0, .slice none 0 0] 27) := ⟨_, rfl⟩
  rw [← hW0] at hbb kr
  have HW := Lib.hid hW0
  have hc0 := hc.below hbb
  have hr0 := hr.below hbb (by omega)
  have hk0 : Chg [g] w W0 := Chg.of_below hbb
  have hz0' := hbb.size
  have hzr := kr.lt w.heap.size (by simp)
  clear hW0 hc hr
  go_enter Tryz.func26, Tryz.ntmps26
  go_wp2_with fail
  rw [← HW.out]
  refine (l04Draw_any g lo hi v bs _ HB.out hn hc0 hr0 hg).mono ?_
  rintro e w1 ⟨u1, x, rfl, okx, hlx, ox, hc1, hg1⟩
  obtain ⟨A1, c1, rfl⟩ := own_len ox
  have HX := Lib.hid (show okS x = true ∧ x.2.length ≤ 2 from ⟨okx, hlx⟩)
  have hr1 : Row w1 lo hi v (bytesV bs) := hr0.stays (fun p hp => World.cell?_of_block (hg1.block _ (by omega) (by simp; omega)))
  have hk1 := hk0.trans hg1
  have kr1 := kr.chg hg1 (fun i hi hm => by simp at hi hm; omega)
  have hx := below_al (Below.refl w1.heap.size w1) (.cells #[.bool x.1, .slice A1 x.2.length c1] 25)
  have kx := box_new w1 #[.bool x.1, .slice A1 x.2.length c1] 25
  obtain ⟨W1, hW1⟩ : ∃ W1, W1 = w1.alloc (.cells #[.bool x.1, .slice A1 x.2.length c1] 25) := ⟨_, rfl⟩
  rw [← hW1] at hx kx
  have HW1 := Lib.hid hW1
  have st0 : DrawSt w g w1.heap.size lo hi v bs A1 c1 x W1 := ⟨hgl, hg, hk1.size, kr1.below hx, kx, fun i hi => by have := own_within ox i hi; omega, (own_at' ox).below hx, hc1.below hx, hr1.below hx (by have := hk1.size; omega), hk1.belowNext hx⟩
  have xl : ∀ i ∈ (Value.slice A1 x.2.length c1).ownBlock.toList, i < w1.heap.size := fun i hi => (own_within ox i hi).2
  have hx1 : w1.heap.size < W1.heap.size := kx.lt w1.heap.size (by simp)
  clear hW1 hc0 hr0 kr hk0 hbb hc1 hr1 hg1 kr1 ox hx hk1 kx okx hlx
  go_wp2_with fail
  rw [← HW1.out]
  refine (l01Below_any 12 g lo hi v bs _ (by omega) (by omega) HB.out hn st0.cur st0.row hg).mono ?_
  rintro e w2 ⟨y, hy0, hy1, rfl, hc2, hg2⟩
  have st2 := st0.step (Chg.of_cur hg2) hc2
  have hx2 := hg2.size
  clear st0 hc2 hg2
  go_wp2_with fail
  refine (specNatOf_any (1 + y) _ (by omega)).mono ?_
  rintro e w3 ⟨ud, rfl, od, b3⟩
  have hD := den_one hy0 hy1
  generalize limbs (1 + y).toNat = D at *
  obtain ⟨Ad, cd, rfl⟩ := own_len od
  have st3 := st2.below b3
  have hz3 := st2.size
  have HD0 := Lib.hid hD
  have hal := below_al (Below.refl w3.heap.size w3) (.cells #[.bool false, .slice Ad D.length cd] 25)
  have kd := box_new w3 #[.bool false, .slice Ad D.length cd] 25
  obtain ⟨W3, hW3⟩ : ∃ W3, W3 = w3.alloc (.cells #[.bool false, .slice Ad D.length cd] 25) := ⟨_, rfl⟩
  rw [← hW3] at hal kd
  have HW3 := Lib.hid hW3
  have st4 := st3.below hal
  have od4 := (own_at' od).below hal
  have dl : ∀ i ∈ (Value.slice Ad D.length cd).ownBlock.toList, w2.heap.size ≤ i := fun i hi => (own_within od i hi).1
  have hz4 := b3.size
  have hz5 : w3.heap.size < W3.heap.size := kd.lt w3.heap.size (by simp)
  clear hW3 st2 st3 od b3 hal hD
  go_wp2_with fail
  rw [← HW3.out]
  refine (l01Once_any 3 g lo hi v bs _ (by omega) (by omega) HB.out hn st4.cur st4.row hg).mono ?_
  rintro e w4 ⟨b, rfl, hc4, hg4⟩
  have hk4 := Chg.of_cur hg4
  have st5 := st4.step hk4 hc4
  have kd5 := kd.chg hk4 (fun i hi hm => by simp at hi hm; omega)
  have od5 := od4.chg hk4 (fun i hi hm => by have := dl i hi; simp at hm; omega)
  have hz6 := hk4.size
  clear st4 kd od4 hk4 hc4 hg4
  cases b with
  | false =>
    have HDD := HD0
    have odd := od5
    have kdd := kd5
    have kd5_0 := kd5.here.cell 0 _ rfl
    have kd5_1 := kd5.here.cell 1 _ rfl
    have kx5_0 := st5.kx.here.cell 0 _ rfl
    have kx5_1 := st5.kx.here.cell 1 _ rfl
    clear od5 kd5
    have hS := st5.size
    go_wp2_with fail
    refine (specRatMake_any _ _ x (false, D) _ (small_szS HX.out.2) (small_szS HDD.out.2) (OwnS.mk (x := x) st5.ox.here) (OwnS.mk (x := (false, D)) odd.here)).mono ?_
    rintro e w8 ⟨u8, S8, rfl, o8, l8, b8⟩
    have HQ := Lib.hid (makeQ_bd (n := x.1) (xs := x.2) HX.out.1 HX.out.2 HDD.out.1 HDD.out.2)
    rw [show ((x.1, x.2) : SI) = x from rfl] at HQ
    obtain ⟨⟨Q, bo⟩, hq⟩ : ∃ Q, makeQ x (false, D) = Q := ⟨_, rfl⟩
    rw [hq] at o8 HQ ⊢
    obtain ⟨A8, c8, B8, d8, rfl⟩ := ownQ_form o8.here
    have st8 := st5.below b8
    have hz8 := b8.size
    clear hq kdd odd st5
    have hal8 := below_al (Below.refl w8.heap.size w8) (.cells #[.bool Q.1.1, .slice A8 Q.1.2.length c8, .slice B8 Q.2.length d8] 27)
    have kq := box_new w8 #[.bool Q.1.1, .slice A8 Q.1.2.length c8, .slice B8 Q.2.length d8] 27
    cases bo with
    | true =>
      have st9 := st8.below hal8
      have o9 := o8.below hal8
      have kq0 := kq.here.cell 0 _ rfl
      have kq1 := kq.here.cell 1 _ rfl
      have kq2 := kq.here.cell 2 _ rfl
      have cz0 := st9.kr.here.cell 0 _ rfl
      have fz0 := Lib.frozen_of_heap st9.kr.here 0
      have cz1 := st9.kr.here.cell 1 _ rfl
      have fz1 := Lib.frozen_of_heap st9.kr.here 1
      have cz2 := st9.kr.here.cell 2 _ rfl
      have fz2 := Lib.frozen_of_heap st9.kr.here 2
      have HW9 := Lib.hid (drawQ_at (q := Q) (c0 := .bool Q.1.1) (c1 := .slice A8 Q.1.2.length c8) (c2 := .slice B8 Q.2.length d8) st9.gl (HQ.out rfl) o9 (fun i hi => ⟨by have := (l8 i hi).1; omega, o9.lt i hi⟩) st9.cur st9.chg)
      clear st8 st9 o8 o9 kq hal8
      go_wp2
      refine bodyPost_ret (v := .agg #[.bool _, .slice A8 _ c8, .slice B8 _ d8]) (by simp [results, Tryz.results26, go_sem, cz0, cz1, cz2]; exact ⟨rfl, rfl, rfl⟩) rfl ?_
      exact HW9.out
    | false =>
      have st9 := st8.below hal8
      clear o8 kq
      go_wp2_with fail
      refine (specRatZero_any _).mono ?_
      rintro e w9 ⟨u9, S9, rfl, o9, l9, b9⟩
      obtain ⟨A9, c9, B9, d9, rfl⟩ := ownQ_form o9.here
      have st10 := st9.below b9
      have hz9 := hal8.size
      have cz0 := st10.kr.here.cell 0 _ rfl
      have fz0 := Lib.frozen_of_heap st10.kr.here 0
      have cz1 := st10.kr.here.cell 1 _ rfl
      have fz1 := Lib.frozen_of_heap st10.kr.here 1
      have cz2 := st10.kr.here.cell 2 _ rfl
      have fz2 := Lib.frozen_of_heap st10.kr.here 2
      have HW9 := Lib.hid (drawQ_at (q := oneQ) (c0 := .bool oneQ.1.1) (c1 := .slice A9 oneQ.1.2.length c9) (c2 := .slice B9 oneQ.2.length d9) st10.gl oneQ_bd o9 (fun i hi => ⟨by have := (l9 i hi).1; omega, o9.lt i hi⟩) st10.cur st10.chg)
      clear st8 st9 st10 o9 hal8
      go_wp2
      refine bodyPost_ret (v := .agg #[.bool _, .slice A9 _ c9, .slice B9 _ d9]) (by simp [results, Tryz.results26, go_sem, cz0, cz1, cz2]; exact ⟨rfl, rfl, rfl⟩) rfl ?_
      exact HW9.out
  | true =>
    go_wp2_with fail
    refine (l02Nat_any 1 g lo hi v bs _ (by omega) HB.out hn st5.cur st5.row hg).mono ?_
    rintro e w5 ⟨u5, xs, rfl, oky, hly, o5, hc5, hk5⟩
    obtain ⟨A5, c5, rfl⟩ := own_len o5
    have HY := Lib.hid (show natOkB xs = true ∧ xs.length ≤ 1 from ⟨oky, hly⟩)
    have st6 := st5.step hk5 hc5
    have kd6 := kd5.chg hk5 (fun i hi hm => by simp at hi hm; omega)
    have o6 := own_at' o5
    have ol : ∀ i ∈ (Value.slice A5 xs.length c5).ownBlock.toList, w4.heap.size ≤ i := fun i hi => (own_within o5 i hi).1
    have hz7 := hk5.size
    clear od5 oky hly
    go_wp2_with fail
    refine (l01Below_any 999 g lo hi v bs _ (by omega) (by omega) HB.out hn st6.cur st6.row hg).mono ?_
    rintro e w6 ⟨zz, hq0, hq1, rfl, hc6, hg6⟩
    have hk6 := Chg.of_cur hg6
    have st7 := st6.step hk6 hc6
    have kd7 := kd6.chg hk6 (fun i hi hm => by simp at hi hm; omega)
    have o7 : w6.ownsRow w4.heap.size 3 1 (.slice A5 xs.length c5) xs.length (intsV xs) := own_stays o5 (fun i hi => hk6.block i (own_lt o5 hi).2 (by have := (own_lt o5 hi).1; simp; omega))
    have HDD := Lib.hid (den_two HY.out.1 HY.out.2 hq0 hq1)
    obtain ⟨p, hp⟩ : ∃ p, 1 + zz = p := ⟨_, rfl⟩
    have HP := Lib.hid hp
    rw [hp] at HDD
    have hz8' := hk6.size
    have hd0 := kd7.here.cell 1 _ rfl
    have hf0 := Lib.frozen_of_heap kd7.here 1
    clear st6 kd6 o6
    go_wp2_with (at_builtin; (try rw [HP.out]); refine wpList_append_own _ rfl _ _ 23 rfl w4.heap.size 3 i0 (.int .i64 0) 1 8 Tryz.underlying23 hi0 hz0 hz1 hz2 rfl (by decide) _ _ _ rfl (own_alloc o7 _) ⟨w6.heap.size, 0, none⟩ 1 1 [.int .i64 p] rfl rfl (one_new _ _ _) ?c2 ?c3 ?c4 ?c5 ?_)
    case c2 => first | (intro u hu; simp at hu; subst hu; rfl) | rfl
    case c3 => unfold maxLen; have := HY.out.2; omega
    case c4 => have := HY.out.2; omega
    case c5 => simp; omega
    intro v7 w7 hown7 hg7 _
    have hk7 : Chg [g] w4 w7 := ((hk5.trans hk6).alloc _).new_row hg7 (fun j hj => (own_lt o5 hj).1)
    have hc7 : Cur w7 g v bs.length := (hc6.alloc _).grown hg7 (fun e => by have := (own_lt o5 e).1; omega)
    have st8 := st5.step hk7 hc7
    have kd8 := kd5.chg hk7 (fun i hi hm => by simp at hi hm; omega)
    rw [show intsV xs ++ [Value.int .i64 p] = intsV (xs ++ [p]) by simp [intsV]] at hown7
    obtain ⟨D2, hD2⟩ : ∃ D2, xs ++ [p] = D2 := ⟨_, rfl⟩
    have hlx : D2.length = xs.length + 1 := by rw [← hD2]; simp
    rw [hD2] at HDD hown7
    rw [← hlx] at hown7
    obtain ⟨A7, c7, rfl⟩ := own_len hown7
    have hz9 := hk7.size
    have hbx : w1.heap.size < w3.heap.size := by omega
    have odd : At (Value.slice A7 D2.length c7).ownBlock.toList (OwnI (.slice A7 D2.length c7) D2) (w7.setCell ⟨w3.heap.size, 1, none⟩ (.slice A7 D2.length c7)) := by
      have h := own_at' hown7
      exact h.chg ((Chg.refl [w3.heap.size] w7).setCell (by simp) _) (fun i hi hm => by have h2 := (own_within hown7 i hi).1; simp at hm; omega)
    have st8_ := st8.set ⟨w3.heap.size, 1, none⟩ (.slice A7 D2.length c7) (by simp; omega) (by simp; omega) (fun i hi => by have := (xl i hi); simp; omega)
    have kdd := set_one (c := .slice A7 D2.length c7) kd8.here
    have kd_0 := kd8.here.cell 0 _ rfl
    have kd_1 := kd8.here.cell 1 _ rfl
    have fd_1 := Lib.frozen_of_heap kd8.here 1
    have ke_0 := kdd.cell 0 _ rfl
    have ke_1 := kdd.cell 1 _ rfl
    have kx_0 := st8_.kx.here.cell 0 _ rfl
    have kx_1 := st8_.kx.here.cell 1 _ rfl
    have hzs : w7.heap.size = (w7.setCell ⟨w3.heap.size, 1, none⟩ (.slice A7 D2.length c7)).heap.size := by simp [World.setCell]
    clear hlx hD2 hown7 hg7 hk7 hc7 st8 kd8 o7 o5 st5 kd5 hc5 hk5 hc6 hg6 hk6 kd7 st7
    have hS := st8_.size
    go_wp2_with fail
    refine (specRatMake_any _ _ x (false, D2) _ (small_szS HX.out.2) (small_szS HDD.out.2) (OwnS.mk (x := x) st8_.ox.here) (OwnS.mk (x := (false, D2)) odd.here)).mono ?_
    rintro e w8 ⟨u8, S8, rfl, o8, l8, b8⟩
    have HQ := Lib.hid (makeQ_bd (n := x.1) (xs := x.2) HX.out.1 HX.out.2 HDD.out.1 HDD.out.2)
    rw [show ((x.1, x.2) : SI) = x from rfl] at HQ
    obtain ⟨⟨Q, bo⟩, hq⟩ : ∃ Q, makeQ x (false, D2) = Q := ⟨_, rfl⟩
    rw [hq] at o8 HQ ⊢
    obtain ⟨A8, c8, B8, d8, rfl⟩ := ownQ_form o8.here
    have st8 := st8_.below b8
    have hz8 := b8.size
    clear hq kdd odd st8_
    have hal8 := below_al (Below.refl w8.heap.size w8) (.cells #[.bool Q.1.1, .slice A8 Q.1.2.length c8, .slice B8 Q.2.length d8] 27)
    have kq := box_new w8 #[.bool Q.1.1, .slice A8 Q.1.2.length c8, .slice B8 Q.2.length d8] 27
    cases bo with
    | true =>
      have st9 := st8.below hal8
      have o9 := o8.below hal8
      have kq0 := kq.here.cell 0 _ rfl
      have kq1 := kq.here.cell 1 _ rfl
      have kq2 := kq.here.cell 2 _ rfl
      have cz0 := st9.kr.here.cell 0 _ rfl
      have fz0 := Lib.frozen_of_heap st9.kr.here 0
      have cz1 := st9.kr.here.cell 1 _ rfl
      have fz1 := Lib.frozen_of_heap st9.kr.here 1
      have cz2 := st9.kr.here.cell 2 _ rfl
      have fz2 := Lib.frozen_of_heap st9.kr.here 2
      have HW9 := Lib.hid (drawQ_at (q := Q) (c0 := .bool Q.1.1) (c1 := .slice A8 Q.1.2.length c8) (c2 := .slice B8 Q.2.length d8) st9.gl (HQ.out rfl) o9 (fun i hi => ⟨by have := (l8 i hi).1; omega, o9.lt i hi⟩) st9.cur st9.chg)
      clear st8 st9 o8 o9 kq hal8
      go_wp2
      refine bodyPost_ret (v := .agg #[.bool _, .slice A8 _ c8, .slice B8 _ d8]) (by simp [results, Tryz.results26, go_sem, cz0, cz1, cz2]; exact ⟨rfl, rfl, rfl⟩) rfl ?_
      exact HW9.out
    | false =>
      have st9 := st8.below hal8
      clear o8 kq
      go_wp2_with fail
      refine (specRatZero_any _).mono ?_
      rintro e w9 ⟨u9, S9, rfl, o9, l9, b9⟩
      obtain ⟨A9, c9, B9, d9, rfl⟩ := ownQ_form o9.here
      have st10 := st9.below b9
      have hz9 := hal8.size
      have cz0 := st10.kr.here.cell 0 _ rfl
      have fz0 := Lib.frozen_of_heap st10.kr.here 0
      have cz1 := st10.kr.here.cell 1 _ rfl
      have fz1 := Lib.frozen_of_heap st10.kr.here 1
      have cz2 := st10.kr.here.cell 2 _ rfl
      have fz2 := Lib.frozen_of_heap st10.kr.here 2
      have HW9 := Lib.hid (drawQ_at (q := oneQ) (c0 := .bool oneQ.1.1) (c1 := .slice A9 oneQ.1.2.length c9) (c2 := .slice B9 oneQ.2.length d9) st10.gl oneQ_bd o9 (fun i hi => ⟨by have := (l9 i hi).1; omega, o9.lt i hi⟩) st10.cur st10.chg)
      clear st8 st9 st10 o9 hal8
      go_wp2
      refine bodyPost_ret (v := .agg #[.bool _, .slice A9 _ c9, .slice B9 _ d9]) (by simp [results, Tryz.results26, go_sem, cz0, cz1, cz2]; exact ⟨rfl, rfl, rfl⟩) rfl ?_
      exact HW9.out
/-- what MakeRats gives -/
def RatsPost (w : World) (e : Ending) (w' : World) : Prop :=
  ∃ (u0 u1 u2 : Value) (r s t : QI) (S0 S1 S2 : List Nat), e = .returned (.tuple #[u0, u1, u2]) ∧ Bd r 2 ∧ Bd s 2 ∧ Bd t 2 ∧ At S0 (OwnQ u0 r) w' ∧ At S1 (OwnQ u1 s) w' ∧ At S2 (OwnQ u2 t) w' ∧ Below w.heap.size w w'
theorem set3_same {b : Nat} {x0 x1 x2 c0 c1 c2 : Value} {T : TypeId} {W : World} (hb : BoxAt b #[x0, x1, x2] T W) : BoxAt b #[c0, c1, c2] T (((W.setCell ⟨b, 0, none⟩ c0).setCell ⟨b, 1, none⟩ c1).setCell ⟨b, 2, none⟩ c2) := by
  have hb' : W.heap[b]? = some (.cells #[x0, x1, x2] T (0, 0)) := hb
  simp [BoxAt, World.setCell, Array.getElem?_modify, hb']
theorem set3_chg (b : Nat) (c0 c1 c2 : Value) (W : World) : Chg [b] W (((W.setCell ⟨b, 0, none⟩ c0).setCell ⟨b, 1, none⟩ c1).setCell ⟨b, 2, none⟩ c2) := (((Chg.refl _ _).setCell (by simp) _).setCell (by simp) _).setCell (by simp) _
/-- the three results lie in their boxes -/
theorem rats_laid {s : Nat} {a0 a1 a2 b0 b1 b2 c0 c1 c2 : Value} {r1 r2 r3 : QI} {S1 S2 S3 : List Nat} {w W : World} (hw : s = w.heap.size)
    (k0 : At [s] (BoxAt s #[.bool false, .slice none 0 0, .slice none 0 0] 27) W) (k1 : At [s + 1] (BoxAt (s + 1) #[.bool false, .slice none 0 0, .slice none 0 0] 27) W) (k2 : At [s + 1 + 1] (BoxAt (s + 1 + 1) #[.bool false, .slice none 0 0, .slice none 0 0] 27) W)
    (o1 : At S1 (OwnQ (.agg #[a0, a1, a2]) r1) W) (o2 : At S2 (OwnQ (.agg #[b0, b1, b2]) r2) W) (o3 : At S3 (OwnQ (.agg #[c0, c1, c2]) r3) W)
    (l1 : ∀ i ∈ S1, s + 1 + 1 < i) (l2 : ∀ i ∈ S2, s + 1 + 1 < i) (l3 : ∀ i ∈ S3, s + 1 + 1 < i) (hW : Below w.heap.size w W) :
    ∃ F, F = (((((((((W.setCell ⟨s, 0, none⟩ a0).setCell ⟨s, 1, none⟩ a1).setCell ⟨s, 2, none⟩ a2).setCell ⟨s + 1, 0, none⟩ b0).setCell ⟨s + 1, 1, none⟩ b1).setCell ⟨s + 1, 2, none⟩ b2).setCell ⟨s + 1 + 1, 0, none⟩ c0).setCell ⟨s + 1 + 1, 1, none⟩ c1).setCell ⟨s + 1 + 1, 2, none⟩ c2) ∧
      BoxAt s #[a0, a1, a2] 27 F ∧ BoxAt (s + 1) #[b0, b1, b2] 27 F ∧ BoxAt (s + 1 + 1) #[c0, c1, c2] 27 F ∧ At S1 (OwnQ (.agg #[a0, a1, a2]) r1) F ∧ At S2 (OwnQ (.agg #[b0, b1, b2]) r2) F ∧ At S3 (OwnQ (.agg #[c0, c1, c2]) r3) F ∧ Below w.heap.size w F := by
  subst hw
  have h1 := set3_chg w.heap.size a0 a1 a2 W
  have e1 := (box_at (set3_same (c0 := a0) (c1 := a1) (c2 := a2) k0.here))
  have k1a := k1.chg h1 (fun i hi hm => by simp at hi hm; omega)
  have k2a := k2.chg h1 (fun i hi hm => by simp at hi hm; omega)
  have o1a := o1.chg h1 (fun i hi hm => by have := l1 i hi; simp at hm; omega)
  have o2a := o2.chg h1 (fun i hi hm => by have := l2 i hi; simp at hm; omega)
  have o3a := o3.chg h1 (fun i hi hm => by have := l3 i hi; simp at hm; omega)
  have ba := below_chg hW h1 hW.size (fun i hi => by simp at hi; omega)
  generalize (((W.setCell ⟨w.heap.size, 0, none⟩ a0).setCell ⟨w.heap.size, 1, none⟩ a1).setCell ⟨w.heap.size, 2, none⟩ a2) = X at *
  have h2 := set3_chg (w.heap.size + 1) b0 b1 b2 X
  have e2 := (box_at (set3_same (c0 := b0) (c1 := b1) (c2 := b2) k1a.here))
  have e1b := e1.chg h2 (fun i hi hm => by simp at hi hm; omega)
  have k2b := k2a.chg h2 (fun i hi hm => by simp at hi hm; omega)
  have o1b := o1a.chg h2 (fun i hi hm => by have := l1 i hi; simp at hm; omega)
  have o2b := o2a.chg h2 (fun i hi hm => by have := l2 i hi; simp at hm; omega)
  have o3b := o3a.chg h2 (fun i hi hm => by have := l3 i hi; simp at hm; omega)
  have bb := below_chg ba h2 ba.size (fun i hi => by simp at hi; omega)
  generalize (((X.setCell ⟨w.heap.size + 1, 0, none⟩ b0).setCell ⟨w.heap.size + 1, 1, none⟩ b1).setCell ⟨w.heap.size + 1, 2, none⟩ b2) = Y at *
  have h3 := set3_chg (w.heap.size + 1 + 1) c0 c1 c2 Y
  have e3 := set3_same (c0 := c0) (c1 := c1) (c2 := c2) k2b.here
  exact ⟨_, rfl, (e1b.chg h3 (fun i hi hm => by simp at hi hm; omega)).here, (e2.chg h3 (fun i hi hm => by simp at hi hm; omega)).here, e3,
    o1b.chg h3 (fun i hi hm => by have := l1 i hi; simp at hm; omega), o2b.chg h3 (fun i hi hm => by have := l2 i hi; simp at hm; omega), o3b.chg h3 (fun i hi hm => by have := l3 i hi; simp at hm; omega), below_chg bb h3 bb.size (fun i hi => by simp at hi; omega)⟩
set_option maxHeartbeats 4000000 in
set_option maxRecDepth 100000 in
theorem makeRats_any (v : Value) (bs : List Nat) (w : World) (hb : ∀ b ∈ bs, b < 256) (hn : bs.length ≤ 1048576) (hr : Row w 0 w.heap.size v (bytesV bs)) :
    Calls Tryz.prog 7 #[v] w (RatsPost w) := by
  have HB := Lib.hid hb
  clear hb
  have hbb : Below w.heap.size w (((w.alloc (.cells #[.bool false, .slice none 0 0, .slice none 0 0] 27)).alloc (.cells #[.bool false, .slice none 0 0, .slice none 0 0] 27)).alloc (.cells #[.bool false, .slice none 0 0, .slice none 0 0] 27)) := below_al (below_al (below_al (Below.refl _ _) _) _) _
  have ka := ((box_new w #[.bool false, .slice none 0 0, .slice none 0 0] 27).below (below_al (Below.refl _ _) (.cells #[.bool false, .slice none 0 0, .slice none 0 0] 27))).below (below_al (Below.refl _ _) (.cells #[.bool false, .slice none 0 0, .slice none 0 0] 27))
  have kb := (box_new (w.alloc (.cells #[.bool false, .slice none 0 0, .slice none 0 0] 27)) #[.bool false, .slice none 0 0, .slice none 0 0] 27).below (below_al (Below.refl _ _) (.cells #[.bool false, .slice none 0 0, .slice none 0 0] 27))
  rw [show (w.alloc (.cells #[.bool false, .slice none 0 0, .slice none 0 0] 27)).heap.size = w.heap.size + 1 by simp] at kb
  have kc := box_new ((w.alloc (.cells #[.bool false, .slice none 0 0, .slice none 0 0] 27)).alloc (.cells #[.bool false, .slice none 0 0, .slice none 0 0] 27)) #[.bool false, .slice none 0 0, .slice none 0 0] 27
  rw [show ((w.alloc (.cells #[.bool false, .slice none 0 0, .slice none 0 0] 27)).alloc (.cells #[.bool false, .slice none 0 0, .slice none 0 0] 27)).heap.size = w.heap.size + 1 + 1 by simp] at kc
  obtain ⟨W0, hW0⟩ : ∃ W0, W0 = (((w.alloc (.cells #[.bool false, .slice none 0 0, .slice none 0 0] 27)).alloc (.cells #[.bool false, .slice none 0 0, .slice none 0 0] 27)).alloc (.cells #[.bool false, .slice none 0 0, .slice none 0 0] 27)) := ⟨_, rfl⟩
  rw [← hW0] at hbb ka kb kc
  have HW := Lib.hid hW0
  have hz0 := kc.lt (w.heap.size + 1 + 1) (by simp)
  have hr0 := hr.below hbb (Nat.le_refl _)
  clear hW0 hr
  go_enter Tryz.func7, Tryz.ntmps7
  go_wp2_with fail
  rw [← HW.out]
  refine (l01New_any 0 w.heap.size v bs _ HB.out hn hr0).mono ?_
  rintro e w1 ⟨g, hg, rfl, hc1, b1⟩
  have hr1 := hr0.below b1 (by omega)
  replace ka := ka.below b1
  replace kb := kb.below b1
  replace kc := kc.below b1
  have bb1 := Below.next hbb b1
  have hgl := hc1.lt
  clear hr0 hbb
  go_wp2_with fail
  refine (l05Draw_any g 0 w.heap.size v bs _ HB.out hn hc1 hr1 (by omega)).mono ?_
  rintro e w2 ⟨u1, r, Sr, rfl, hbr, o_r, l_r, hc2, hk2⟩
  obtain ⟨Ar, cr, Br, dr, rfl⟩ := ownQ_form o_r.here
  have HBR := Lib.hid hbr
  have hr2 : Row w2 0 w.heap.size v (bytesV bs) := hr1.stays (fun p hp => World.cell?_of_block (hk2.block _ (by omega) (by simp; omega)))
  replace ka := ka.chg hk2 (fun i hi hm => by simp at hi hm; omega)
  replace kb := kb.chg hk2 (fun i hi hm => by simp at hi hm; omega)
  replace kc := kc.chg hk2 (fun i hi hm => by simp at hi hm; omega)
  have bb2 := below_chg bb1 hk2 bb1.size (fun i hi => by simp at hi; omega)
  have hz2 := hk2.size
  have hx := below_al (Below.refl w2.heap.size w2) (.cells #[.bool r.1.1, .slice Ar r.1.2.length cr, .slice Br r.2.length dr] 27)
  have k6 := box_new w2 #[.bool r.1.1, .slice Ar r.1.2.length cr, .slice Br r.2.length dr] 27
  obtain ⟨W2, hW2⟩ : ∃ W2, W2 = w2.alloc (.cells #[.bool r.1.1, .slice Ar r.1.2.length cr, .slice Br r.2.length dr] 27) := ⟨_, rfl⟩
  rw [← hW2] at hx k6
  have HW2 := Lib.hid hW2
  replace o_r := o_r.below hx
  replace ka := ka.below hx
  replace kb := kb.below hx
  replace kc := kc.below hx
  have hc3 := hc2.below hx
  have hr3 := hr2.below hx (by have := bb2.size; omega)
  have bb3 := Below.next bb2 hx
  have hz3 := k6.lt w2.heap.size (by simp)
  clear hW2 hbr hr1 hr2 hc1 hc2 hk2 hx bb1 bb2
  go_wp2_with fail
  rw [← HW2.out]
  refine (l05Draw_any g 0 w.heap.size v bs _ HB.out hn hc3 hr3 (by omega)).mono ?_
  rintro e w3 ⟨u2, s, Ss, rfl, hbs, o_s, l_s, hc4, hk4⟩
  obtain ⟨As, cs, Bs, ds, rfl⟩ := ownQ_form o_s.here
  have HBS := Lib.hid hbs
  have hr4 : Row w3 0 w.heap.size v (bytesV bs) := hr3.stays (fun p hp => World.cell?_of_block (hk4.block _ (by omega) (by simp; omega)))
  replace ka := ka.chg hk4 (fun i hi hm => by simp at hi hm; omega)
  replace kb := kb.chg hk4 (fun i hi hm => by simp at hi hm; omega)
  replace kc := kc.chg hk4 (fun i hi hm => by simp at hi hm; omega)
  replace k6 := k6.chg hk4 (fun i hi hm => by simp at hi hm; omega)
  replace o_r := o_r.chg hk4 (fun i hi hm => by have := (l_r i hi).1; simp at hm; omega)
  have bb4 := below_chg bb3 hk4 bb3.size (fun i hi => by simp at hi; omega)
  have hz4 := hk4.size
  have hy := below_al (Below.refl w3.heap.size w3) (.cells #[.bool s.1.1, .slice As s.1.2.length cs, .slice Bs s.2.length ds] 27)
  have k7 := box_new w3 #[.bool s.1.1, .slice As s.1.2.length cs, .slice Bs s.2.length ds] 27
  obtain ⟨W3, hW3⟩ : ∃ W3, W3 = w3.alloc (.cells #[.bool s.1.1, .slice As s.1.2.length cs, .slice Bs s.2.length ds] 27) := ⟨_, rfl⟩
  rw [← hW3] at hy k7
  have HW3 := Lib.hid hW3
  replace o_r := o_r.below hy
  replace o_s := o_s.below hy
  replace ka := ka.below hy
  replace kb := kb.below hy
  replace kc := kc.below hy
  replace k6 := k6.below hy
  have hc5 := hc4.below hy
  have hr5 := hr4.below hy (by have := bb4.size; omega)
  have bb5 := Below.next bb4 hy
  have hz5 := k7.lt w3.heap.size (by simp)
  have LR := Lib.hid (show ∀ i ∈ Sr, g < i ∧ w.heap.size + 1 + 1 < i from fun i hi => by have := (l_r i hi).1; omega)
  have LS := Lib.hid (show ∀ i ∈ Ss, g < i ∧ w.heap.size + 1 + 1 < i from fun i hi => by have := (l_s i hi).1; omega)
  clear hW3 hbs hr3 hr4 hc3 hc4 hk4 hy bb3 bb4 l_r l_s
  have cx0 := k6.here.cell 0 _ rfl
  have cx1 := k6.here.cell 1 _ rfl
  have cx2 := k6.here.cell 2 _ rfl
  have cy0 := k7.here.cell 0 _ rfl
  have cy1 := k7.here.cell 1 _ rfl
  have cy2 := k7.here.cell 2 _ rfl
  go_upto_region 4 with fail
  rw [← HW3.out]
  go_cut [] (fun wx => ∃ (t : QI) (At_ Bt : Option Addr) (ct dt : Nat) (St : List Nat), Bd t 2 ∧ BoxAt w.heap.size #[.bool r.1.1, .slice Ar r.1.2.length cr, .slice Br r.2.length dr] 27 wx ∧ BoxAt (w.heap.size + 1) #[.bool s.1.1, .slice As s.1.2.length cs, .slice Bs s.2.length ds] 27 wx ∧ BoxAt (w.heap.size + 1 + 1) #[.bool t.1.1, .slice At_ t.1.2.length ct, .slice Bt t.2.length dt] 27 wx ∧ At Sr (OwnQ (.agg #[.bool r.1.1, .slice Ar r.1.2.length cr, .slice Br r.2.length dr]) r) wx ∧ At Ss (OwnQ (.agg #[.bool s.1.1, .slice As s.1.2.length cs, .slice Bs s.2.length ds]) s) wx ∧ At St (OwnQ (.agg #[.bool t.1.1, .slice At_ t.1.2.length ct, .slice Bt t.2.length dt]) t) wx ∧ Below w.heap.size w wx)
  case first =>
    have HC := Lib.hid (show Cur W3.drew g v bs.length from hc5)
    have HR := Lib.hid (show Row W3.drew 0 w.heap.size v (bytesV bs) from hr5)
    have H6 := Lib.hid (k6.drewN 1)
    have H7 := Lib.hid (k7.drewN 1)
    have HA := Lib.hid (ka.drewN 1)
    have HBx := Lib.hid (kb.drewN 1)
    have HCx := Lib.hid (kc.drewN 1)
    have HOR := Lib.hid (o_r.drewN 1)
    have HOS := Lib.hid (o_s.drewN 1)
    have HBB := Lib.hid (show Below w.heap.size w W3.drew from bb5.drew)
    have hwz : W3.drew.heap.size = W3.heap.size := rfl
    clear hc5 hr5 k6 k7 ka kb kc o_r o_s bb5
    go_region_with (go_at_call 26; refine (l05Draw_any g 0 w.heap.size v bs _ HB.out hn HC.out HR.out (by omega)).mono ?_; rintro e w4 ⟨u3, t, St, rfl, hbt, o_t, l_t, hc6, hk6⟩; obtain ⟨At_, ct, Bt, dt, rfl⟩ := ownQ_form o_t.here; have k6b := H6.out.chg hk6 (fun i hi hm => by simp at hi hm; omega); have k7b := H7.out.chg hk6 (fun i hi hm => by simp at hi hm; omega); have kab := HA.out.chg hk6 (fun i hi hm => by simp at hi hm; omega); have kbb := HBx.out.chg hk6 (fun i hi hm => by simp at hi hm; omega); have kcb := HCx.out.chg hk6 (fun i hi hm => by simp at hi hm; omega); (have dx0 := k6b.here.cell 0 _ rfl); (have dx1 := k6b.here.cell 1 _ rfl); (have dx2 := k6b.here.cell 2 _ rfl); (have dy0 := k7b.here.cell 0 _ rfl); (have dy1 := k7b.here.cell 1 _ rfl); (have dy2 := k7b.here.cell 2 _ rfl); (have da0 := kab.here.cell 0 _ rfl); (have da1 := kab.here.cell 1 _ rfl); (have da2 := kab.here.cell 2 _ rfl); (have db0 := kbb.here.cell 0 _ rfl); (have db1 := kbb.here.cell 1 _ rfl); (have db2 := kbb.here.cell 2 _ rfl); (have dc0 := kcb.here.cell 0 _ rfl); (have dc1 := kcb.here.cell 1 _ rfl); (have dc2 := kcb.here.cell 2 _ rfl); (have fa0 := Lib.frozen_of_heap kab.here 0); (have fa1 := Lib.frozen_of_heap kab.here 1); (have fa2 := Lib.frozen_of_heap kab.here 2); (have fb0 := Lib.frozen_of_heap kbb.here 0); (have fb1 := Lib.frozen_of_heap kbb.here 1); (have fb2 := Lib.frozen_of_heap kbb.here 2); (have fc0 := Lib.frozen_of_heap kcb.here 0); (have fc1 := Lib.frozen_of_heap kcb.here 1); (have fc2 := Lib.frozen_of_heap kcb.here 2); have HOT := Lib.hid (And.intro hbt o_t); have HLT := Lib.hid l_t; have HK := Lib.hid hk6; have HKA := Lib.hid kab; have HKB := Lib.hid kbb; have HKC := Lib.hid kcb; clear k6b k7b kab kbb kcb o_t l_t hc6 hk6 hbt)
    all_goals
      go_wp2_with fail
      go_meet
      obtain ⟨F, hF, f1, f2, f3, f4, f5, f6, f7⟩ := rats_laid (w := w) rfl HKA.out HKB.out HKC.out (HOR.out.chg HK.out (fun i hi hm => by have := (LR.out i hi).1; simp at hm; omega)) (HOS.out.chg HK.out (fun i hi hm => by have := (LS.out i hi).1; simp at hm; omega)) HOT.out.2 (fun i hi => (LR.out i hi).2) (fun i hi => (LS.out i hi).2) (fun i hi => by have := (HLT.out i hi).1; omega) (below_chg HBB.out HK.out HBB.out.size (fun i hi => by rw [List.mem_singleton.1 hi]; omega))
      rw [← hF]
      exact ⟨t, At_, Bt, ct, dt, St, HOT.out.1, f1, f2, f3, f4, f5, f6, f7⟩
  rename World => w5
  obtain ⟨t, At_, Bt, ct, dt, St, hbt, k1, k2, k3, o1, o2, o3, bb6⟩ := hcut
  have ca0 := k1.cell 0 _ rfl
  have ca1 := k1.cell 1 _ rfl
  have ca2 := k1.cell 2 _ rfl
  have cb0 := k2.cell 0 _ rfl
  have cb1 := k2.cell 1 _ rfl
  have cb2 := k2.cell 2 _ rfl
  have cc0 := k3.cell 0 _ rfl
  have cc1 := k3.cell 1 _ rfl
  have cc2 := k3.cell 2 _ rfl
  have HFIN := Lib.hid (show RatsPost w (.returned (.tuple #[.agg #[.bool r.1.1, .slice Ar r.1.2.length cr, .slice Br r.2.length dr], .agg #[.bool s.1.1, .slice As s.1.2.length cs, .slice Bs s.2.length ds], .agg #[.bool t.1.1, .slice At_ t.1.2.length ct, .slice Bt t.2.length dt]])) w5 from ⟨_, _, _, r, s, t, Sr, Ss, St, rfl, HBR.out, HBS.out, hbt, o1, o2, o3, bb6⟩)
  clear cx0 cx1 cx2 cy0 cy1 cy2 k1 k2 k3 o1 o2 o3 bb6
  go_wp2
  refine bodyPost_ret (v := .tuple #[.agg #[.bool _, .slice Ar _ cr, .slice Br _ dr], .agg #[.bool _, .slice As _ cs, .slice Bs _ ds], .agg #[.bool _, .slice At_ _ ct, .slice Bt _ dt]]) (by simp [results, Tryz.results7, go_sem, ca0, ca1, ca2, cb0, cb1, cb2, cc0, cc1, cc2]; exact ⟨⟨rfl, rfl, rfl⟩, ⟨rfl, rfl, rfl⟩, rfl, rfl, rfl⟩) rfl ?_
  exact HFIN.out
end Go.Proofs.YtkkdlgiilhngcaaGreatDoor
