/-
  Numbers and fractions of at most three limbs that a law draws: they are right, and short.
  The law FnModes, walked over the contracts of package impl.
  What FnStep draws: a signed number of at most three limbs, a number, a mode.
  RatRest: for a right fraction both the rounded number and the rest are right fractions.
  RoundTo: what it makes of its arguments.
  RoundTo of package impl.
  The law FnStep, walked over the contracts of package impl.
-/
import Derived.Deep.RegionHeld3
import Derived.Deep.DeepCutAuto
import Derived.IntWalk
import Derived.Test.YthfkdofnoomhaaaDoorJA10
namespace Go.Proofs.YthfkdofnoomhaaaDoor
open Go.RowKit

/-- what a drawn signed number is -/
def DrawSPost3 (g : Nat) (v : Value) (n : Nat) (w : World) (e : Ending) (w' : World) : Prop :=
  ∃ (u : Value) (x : SI), e = .returned (.agg #[.bool x.1, u]) ∧ okS x = true ∧ x.2.length ≤ 3 ∧ w'.ownsRow w.heap.size 3 1 u x.2.length (intsV x.2) ∧ Cur w' g v n ∧ Chg [g] w w'
theorem drawS_ret3 {r g n : Nat} {u c0 c1 v : Value} {x : SI} {w W : World} {B : Nat} (hb : BoxAt r #[c0, c1] 28 W) (o : W.ownsRow B 3 1 u x.2.length (intsV x.2)) (hB : w.heap.size ≤ B) (hr : w.heap.size ≤ r) (hg : g < w.heap.size) (ok : okS x = true) (hl : x.2.length ≤ 3) (hc : Cur W g v n) (hW : Chg [g] w W) :
    DrawSPost3 g v n w (.returned (.agg #[.bool x.1, u])) ((W.setCell ⟨r, 0, none⟩ (.bool x.1)).setCell ⟨r, 1, none⟩ u) := by
  have hne := Lib.ownBlock_ne o hb (by decide)
  refine ⟨u, x, rfl, ok, hl, own_low (own_stays o fun i hi => ?_) hB, (hc.put (by omega)).put (by omega), (hW.setNew (p := ⟨r, 0, none⟩) hr _).setNew (p := ⟨r, 1, none⟩) hr _⟩
  have : i ≠ r := fun e => hne (by rw [hi, e])
  exact (Below.heap_setCell _ _ _ _ this).trans (Below.heap_setCell _ _ _ _ this)
theorem ofZ_small3 {z : Int} (h0 : -1000 ≤ z) (h1 : z ≤ 1000) : (ofZ z).2.length ≤ 3 := by
  unfold ofZ
  have h := limbs_length_le z.natAbs 1 (by show (z.natAbs : Int) < 1000000000 * 1; omega)
  split
  · exact Nat.le_trans h (by decide)
  · exact Nat.zero_le _
theorem mk_small3 {n : Bool} {xs : List Int} (ok : natOkB xs = true) (hl : xs.length ≤ 3) : okS (mkS n (trimL xs)) = true ∧ (mkS n (trimL xs)).2.length ≤ 3 := by
  rw [natOk_trim ok]
  have e : mkS n xs = (n && decide (0 < xs.length), xs) := by unfold mkS; rw [capL_short (by omega)]
  rw [e]
  refine ⟨?_, hl⟩
  unfold okS
  rw [ok]
  cases n with
  | false => rfl
  | true => by_cases h : 0 < xs.length <;> simp [h]
set_option maxHeartbeats 1000000 in
set_option maxRecDepth 100000 in
theorem l04Draw_any3 (g lo hi : Nat) (v : Value) (bs : List Nat) (w : World) (hb : ∀ b ∈ bs, b < 256) (hn : bs.length ≤ 1048576) (hc : Cur w g v bs.length) (hr : Row w lo hi v (bytesV bs)) (hg : hi ≤ g) :
    Calls Tryd.prog 94 #[.pointer (some ⟨g, 0, none⟩), .int .i64 3] w (DrawSPost3 g v bs.length w) := by
  have HB := Lib.hid hb
  have hgl := hc.lt
  clear hb
  have hbb : Below w.heap.size w (w.alloc (.cells #[.bool false, .slice none 0 0] 28)) := below_al (Below.refl _ _) _
  have kr := box_new w #[.bool false, .slice none 0 0] 28
  obtain ⟨W0, hW0⟩ : ∃ W0, W0 = w.alloc (.cells #[.bool false, .slice none 0 0] 28) := ⟨_, rfl⟩
  rw [← hW0] at hbb kr
  have HW := Lib.hid hW0
  have hc0 := hc.below hbb
  have hr0 := hr.below hbb (by omega)
  have hk0 : Chg [g] w W0 := Chg.of_below hbb
  have hz0 := hbb.size
  clear hW0 hc hr
  go_enter Tryd.func94, Tryd.ntmps94
  go_wp2_with fail
  rw [← HW.out]
  refine (l01Once_any 3 g lo hi v bs _ (by omega) (by omega) HB.out hn hc0 hr0 hg).mono ?_
  rintro e w1 ⟨b, rfl, hc1, hg1⟩
  have hr1 := hr0.far hg1 hg
  have hk1 := hk0.trans (Chg.of_cur hg1)
  have kr1 := kr.chg (Chg.of_cur hg1) (fun i hi hm => by simp at hi hm; omega)
  clear hc0 hr0 hk0 kr hg1
  cases b with
  | true =>
    go_wp2_with fail
    refine (l01Below_any 2001 g lo hi v bs _ (by omega) (by omega) HB.out hn hc1 hr1 hg).mono ?_
    rintro e w2 ⟨x, hx0, hx1, rfl, hc2, hg2⟩
    have hk2 := hk1.trans (Chg.of_cur hg2)
    have kr2 := kr1.chg (Chg.of_cur hg2) (fun i hi hm => by simp at hi hm; omega)
    clear hc1 hr1 hk1 kr1 hg2
    go_wp2_with fail
    refine (specIntOf_any (x - 1000) _ (by omega) (by omega)).mono ?_
    rintro e w3 ⟨u3, rfl, o3, b3⟩
    have HZ := Lib.hid (show okS (ofZ (x - 1000)) = true ∧ (ofZ (x - 1000)).2.length ≤ 3 from ⟨ofZ_ok _, ofZ_small3 (by omega) (by omega)⟩)
    generalize ofZ (x - 1000) = z at *
    obtain ⟨A3, c3, rfl⟩ := own_len o3
    have kr3 := kr2.below b3
    have hc3 := hc2.below b3
    have hk3 := hk2.belowNext b3
    have cz0 := kr3.here.cell 0 _ rfl
    have cz1 := kr3.here.cell 1 _ rfl
    have fz0 := Lib.frozen_of_heap kr3.here 0
    have fz1 := Lib.frozen_of_heap kr3.here 1
    have HO := Lib.hid o3
    have HK := Lib.hid kr3
    have HC := Lib.hid hc3
    have HG := Lib.hid hk3
    have hz2 := hk2.size
    clear o3 kr3 hc3 hk3 kr2 hc2 hk2 b3
    go_wp2
    refine bodyPost_ret (v := .agg #[.bool _, .slice A3 _ c3]) (by simp [results, Tryd.results94, go_sem, cz0, cz1]; exact ⟨rfl, rfl⟩) rfl ?_
    exact drawS_ret3 HK.out.here HO.out hz2 (Nat.le_refl _) hgl HZ.out.1 HZ.out.2 HC.out HG.out
  | false =>
    go_wp2_with fail
    refine (l01Once_any 2 g lo hi v bs _ (by omega) (by omega) HB.out hn hc1 hr1 hg).mono ?_
    rintro e w2 ⟨b2, rfl, hc2, hg2⟩
    have hr2 := hr1.far hg2 hg
    have hk2 := hk1.trans (Chg.of_cur hg2)
    have kr2 := kr1.chg (Chg.of_cur hg2) (fun i hi hm => by simp at hi hm; omega)
    clear hc1 hr1 hk1 kr1 hg2
    go_wp2_with fail
    refine (l02Nat_any 3 g lo hi v bs _ (by omega) HB.out hn hc2 hr2 hg).mono ?_
    rintro e w3 ⟨u3, xs, rfl, okx, hlx, o3, hc3, hg3⟩
    have hk3 := hk2.trans hg3
    have kr3 := kr2.chg hg3 (fun i hi hm => by simp at hi hm; omega)
    have HZ := Lib.hid (mk_small3 (n := b2) okx hlx)
    have hz2 := hk2.size
    clear hc2 hr2 hk2 kr2 hg3 okx
    go_wp2_with fail
    refine (l04Make_any b2 u3 xs _ _ (by omega) o3).mono ?_
    rintro e w4 ⟨u4, rfl, o4, b4⟩
    generalize mkS b2 (trimL xs) = z at *
    obtain ⟨A4, c4, rfl⟩ := own_len o4
    have kr4 := kr3.below b4
    have hc4 := hc3.below b4
    have hk4 := hk3.belowNext b4
    have hz3 := hk3.size
    have cz0 := kr4.here.cell 0 _ rfl
    have cz1 := kr4.here.cell 1 _ rfl
    have fz0 := Lib.frozen_of_heap kr4.here 0
    have fz1 := Lib.frozen_of_heap kr4.here 1
    have HO := Lib.hid o4
    have HK := Lib.hid kr4
    have HC := Lib.hid hc4
    have HG := Lib.hid hk4
    clear o4 kr4 hc4 hk4 kr3 hc3 hk3 b4 o3
    go_wp2
    refine bodyPost_ret (v := .agg #[.bool _, .slice A4 _ c4]) (by simp [results, Tryd.results94, go_sem, cz0, cz1]; exact ⟨rfl, rfl⟩) rfl ?_
    exact drawS_ret3 HK.out.here HO.out hz3 (Nat.le_refl _) hgl HZ.out.1 HZ.out.2 HC.out HG.out
/-- what a drawn fraction is -/
def DrawQPost3 (g : Nat) (v : Value) (n : Nat) (w : World) (e : Ending) (w' : World) : Prop :=
  ∃ (u : Value) (q : QI) (S : List Nat), e = .returned u ∧ Bd q 3 ∧ At S (OwnQ u q) w' ∧ Within S w.heap.size w'.heap.size ∧ Cur w' g v n ∧ Chg [g] w w'
theorem makeQ_bd3 {n : Bool} {xs : List Int} {d : List Int} (h1 : okS (n, xs) = true) (h2 : xs.length ≤ 3) (hd : natOkB d = true) (h3 : d.length ≤ 3) : (makeQ (n, xs) (false, d)).2 = true → Bd (makeQ (n, xs) (false, d)).1 3 := by
  have hx := okS_parts h1
  have l1 := nval_lt xs (natOk_parts hx.1).1
  have l2 := nval_lt d (natOk_parts hd).1
  have m1 := bp_mono h2
  have m2 := bp_mono h3
  have n1 := nval_ok hx.1
  have n2 := nval_ok hd
  have okd : okS (false, d) = true := by unfold okS; rw [hd]; rfl
  have e : makeQ (n, xs) (false, d) = lowQ (n != false) (nval xs).toNat (nval d).toNat := by unfold makeQ; rw [if_pos ⟨h1, okd⟩]
  rw [e]
  intro hok
  by_cases h0 : (nval d).toNat = 0
  · unfold lowQ at hok
    rw [if_neg (fun h => h.1 h0)] at hok
    cases hok
  · exact (low_bd h0 (by omega) (by omega) (by omega)).2.1
theorem oneQ_bd3 : Bd oneQ 3 := ⟨oneQ_ok, by have := bp_pos 3; show (0 : Int) < _; omega, by show (1 : Int) < bp 3; decide⟩
theorem den_one3 {y : Int} (h0 : 0 ≤ y) (h1 : y < 12) : natOkB (limbs (1 + y).toNat) = true ∧ (limbs (1 + y).toNat).length ≤ 3 := by
  have h : (limbs (1 + y).toNat).length ≤ 1 := limbs_length_le _ 1 (by show ((1 + y).toNat : Int) < 1000000000 * 1; omega)
  exact ⟨limbs_okL _ (by omega), by omega⟩
theorem den_two3 {xs : List Int} {z : Int} (h : natOkB xs = true) (hl : xs.length ≤ 2) (h0 : 0 ≤ z) (h1 : z < 999) : natOkB (xs ++ [1 + z]) = true ∧ (xs ++ [1 + z]).length ≤ 3 := by
  have hp := natOk_parts h
  refine ⟨?_, by simp; omega⟩
  unfold natOkB
  rw [Bool.and_eq_true, Bool.and_eq_true, decide_eq_true_eq, decide_eq_true_eq, all_dig]
  refine ⟨fun d hd => ?_, by simp; omega, ?_⟩
  · rcases List.mem_append.1 hd with hd | hd
    · exact hp.1 d hd
    · simp at hd; omega
  · rw [List.getLastD_eq_getLast?, List.getLast?_append]
    simp
    omega
theorem small_szS3 {x : SI} (h : x.2.length ≤ 3) : szS x ≤ 1048576 := by unfold szS szI; omega
theorem drawQ_at3 {w wx : World} {g n : Nat} {v c0 c1 c2 : Value} {q : QI} {S : List Nat} (hgl : g < w.heap.size) (hq : Bd q 3) (o : At S (OwnQ (.agg #[c0, c1, c2]) q) wx) (l : ∀ i ∈ S, w.heap.size < i ∧ i < wx.heap.size) (hc : Cur wx g v n) (hk : Chg [g] w wx) :
    DrawQPost3 g v n w (.returned (.agg #[c0, c1, c2])) (((wx.setCell ⟨w.heap.size, 0, none⟩ c0).setCell ⟨w.heap.size, 1, none⟩ c1).setCell ⟨w.heap.size, 2, none⟩ c2) := by
  have hc3 : Chg [w.heap.size] wx (((wx.setCell ⟨w.heap.size, 0, none⟩ c0).setCell ⟨w.heap.size, 1, none⟩ c1).setCell ⟨w.heap.size, 2, none⟩ c2) := (((Chg.refl _ _).setCell (by simp) _).setCell (by simp) _).setCell (by simp) _
  have hz := hc3.size
  have h1 := hk.size
  exact ⟨_, q, S, rfl, hq, o.chg hc3 (fun i hi hm => by have := (l i hi).1; simp at hm; omega), fun i hi => by have := l i hi; exact ⟨by omega, by omega⟩,
    ((hc.put (by omega)).put (by omega)).put (by omega), ((hk.setNew (p := ⟨w.heap.size, 0, none⟩) (Nat.le_refl _) _).setNew (p := ⟨w.heap.size, 1, none⟩) (Nat.le_refl _) _).setNew (p := ⟨w.heap.size, 2, none⟩) (Nat.le_refl _) _⟩
set_option maxHeartbeats 2000000 in
set_option maxRecDepth 100000 in
theorem l05Draw_any3 (g lo hi : Nat) (v : Value) (bs : List Nat) (w : World) (hb : ∀ b ∈ bs, b < 256) (hn : bs.length ≤ 1048576) (hc : Cur w g v bs.length) (hr : Row w lo hi v (bytesV bs)) (hg : hi ≤ g) :
    Calls Tryd.prog 86 #[.pointer (some ⟨g, 0, none⟩), .int .i64 3] w (DrawQPost3 g v bs.length w) := by
  obtain ⟨i0, hi0, hz0, hz1, hz2⟩ := info_parts intInfo
  have HB := Lib.hid hb
  have hgl := hc.lt
  clear hb
  have hbb : Below w.heap.size w (w.alloc (.cells #[.bool false, .slice none 0 0, .slice none 0 0] 30)) := below_al (Below.refl _ _) _
  have kr := box_new w #[.bool false, .slice none 0 0, .slice none 0 0] 30
  obtain ⟨W0, hW0⟩ : ∃ W0, W0 = w.alloc (.cells #[.bool false, .slice none 0 0, .slice none 0 0] 30) := ⟨_, rfl⟩
  rw [← hW0] at hbb kr
  have HW := Lib.hid hW0
  have hc0 := hc.below hbb
  have hr0 := hr.below hbb (by omega)
  have hk0 : Chg [g] w W0 := Chg.of_below hbb
  have hz0' := hbb.size
  have hzr := kr.lt w.heap.size (by simp)
  clear hW0 hc hr
  go_enter Tryd.func86, Tryd.ntmps86
  go_wp2_with fail
  rw [← HW.out]
  refine (l04Draw_any3 g lo hi v bs _ HB.out hn hc0 hr0 hg).mono ?_
  rintro e w1 ⟨u1, x, rfl, okx, hlx, ox, hc1, hg1⟩
  obtain ⟨A1, c1, rfl⟩ := own_len ox
  have HX := Lib.hid (show okS x = true ∧ x.2.length ≤ 3 from ⟨okx, hlx⟩)
  have hr1 : Row w1 lo hi v (bytesV bs) := hr0.stays (fun p hp => World.cell?_of_block (hg1.block _ (by omega) (by simp; omega)))
  have hk1 := hk0.trans hg1
  have kr1 := kr.chg hg1 (fun i hi hm => by simp at hi hm; omega)
  have hx := below_al (Below.refl w1.heap.size w1) (.cells #[.bool x.1, .slice A1 x.2.length c1] 28)
  have kx := box_new w1 #[.bool x.1, .slice A1 x.2.length c1] 28
  obtain ⟨W1, hW1⟩ : ∃ W1, W1 = w1.alloc (.cells #[.bool x.1, .slice A1 x.2.length c1] 28) := ⟨_, rfl⟩
  rw [← hW1] at hx kx
  have HW1 := Lib.hid hW1
  have st0 : DrawSt w g w1.heap.size lo hi v bs A1 c1 x W1 := ⟨hgl, hg, hk1.size, kr1.below hx, kx, fun i hi => by have := own_within ox i hi; omega, (own_at' ox).below hx, hc1.below hx, hr1.below hx (by have := hk1.size; omega), hk1.belowNext hx⟩
  have xl : ∀ i ∈ (Value.slice A1 x.2.length c1).ownBlock.toList, i < w1.heap.size := fun i hi => (own_within ox i hi).2
  have hx1 : w1.heap.size < W1.heap.size := kx.lt w1.heap.size (by simp)
  clear hW1 hc0 hr0 kr hk0 hbb hc1 hr1 hg1 kr1 ox hx hk1 kx okx hlx
  go_wp2_with fail
  rw [← HW1.out]
  refine (l01Below_any 12 g lo hi v bs _ (by omega) (by omega) HB.out hn st0.cur st0.row hg).mono ?_
  rintro e w2 ⟨y, hy0, hy1, rfl, hc2, hg2⟩
  have st2 := st0.step (Chg.of_cur hg2) hc2
  have hx2 := hg2.size
  clear st0 hc2 hg2
  go_wp2_with fail
  refine (specNatOf_any (1 + y) _ (by omega)).mono ?_
  rintro e w3 ⟨ud, rfl, od, b3⟩
  have hD := den_one3 hy0 hy1
  generalize limbs (1 + y).toNat = D at *
  obtain ⟨Ad, cd, rfl⟩ := own_len od
  have st3 := st2.below b3
  have hz3 := st2.size
  have HD0 := Lib.hid hD
  have hal := below_al (Below.refl w3.heap.size w3) (.cells #[.bool false, .slice Ad D.length cd] 28)
  have kd := box_new w3 #[.bool false, .slice Ad D.length cd] 28
  obtain ⟨W3, hW3⟩ : ∃ W3, W3 = w3.alloc (.cells #[.bool false, .slice Ad D.length cd] 28) := ⟨_, rfl⟩
  rw [← hW3] at hal kd
  have HW3 := Lib.hid hW3
  have st4 := st3.below hal
  have od4 := (own_at' od).below hal
  have dl : ∀ i ∈ (Value.slice Ad D.length cd).ownBlock.toList, w2.heap.size ≤ i := fun i hi => (own_within od i hi).1
  have hz4 := b3.size
  have hz5 : w3.heap.size < W3.heap.size := kd.lt w3.heap.size (by simp)
  clear hW3 st2 st3 od b3 hal hD
  go_wp2_with fail
  rw [← HW3.out]
  refine (l01Once_any 3 g lo hi v bs _ (by omega) (by omega) HB.out hn st4.cur st4.row hg).mono ?_
  rintro e w4 ⟨b, rfl, hc4, hg4⟩
  have hk4 := Chg.of_cur hg4
  have st5 := st4.step hk4 hc4
  have kd5 := kd.chg hk4 (fun i hi hm => by simp at hi hm; omega)
  have od5 := od4.chg hk4 (fun i hi hm => by have := dl i hi; simp at hm; omega)
  have hz6 := hk4.size
  clear st4 kd od4 hk4 hc4 hg4
  cases b with
  | false =>
    have HDD := HD0
    have odd := od5
    have kdd := kd5
    have kd5_0 := kd5.here.cell 0 _ rfl
    have kd5_1 := kd5.here.cell 1 _ rfl
    have kx5_0 := st5.kx.here.cell 0 _ rfl
    have kx5_1 := st5.kx.here.cell 1 _ rfl
    clear od5 kd5
    have hS := st5.size
    go_wp2_with fail
    refine (specRatMake_any _ _ x (false, D) _ (small_szS3 HX.out.2) (small_szS3 HDD.out.2) (OwnS.mk (x := x) st5.ox.here) (OwnS.mk (x := (false, D)) odd.here)).mono ?_
    rintro e w8 ⟨u8, S8, rfl, o8, l8, b8⟩
    have HQ := Lib.hid (makeQ_bd3 (n := x.1) (xs := x.2) HX.out.1 HX.out.2 HDD.out.1 HDD.out.2)
    rw [show ((x.1, x.2) : SI) = x from rfl] at HQ
    obtain ⟨⟨Q, bo⟩, hq⟩ : ∃ Q, makeQ x (false, D) = Q := ⟨_, rfl⟩
    rw [hq] at o8 HQ ⊢
    obtain ⟨A8, c8, B8, d8, rfl⟩ := ownQ_form o8.here
    have st8 := st5.below b8
    have hz8 := b8.size
    clear hq kdd odd st5
    have hal8 := below_al (Below.refl w8.heap.size w8) (.cells #[.bool Q.1.1, .slice A8 Q.1.2.length c8, .slice B8 Q.2.length d8] 30)
    have kq := box_new w8 #[.bool Q.1.1, .slice A8 Q.1.2.length c8, .slice B8 Q.2.length d8] 30
    cases bo with
    | true =>
      have st9 := st8.below hal8
      have o9 := o8.below hal8
      have kq0 := kq.here.cell 0 _ rfl
      have kq1 := kq.here.cell 1 _ rfl
      have kq2 := kq.here.cell 2 _ rfl
      have cz0 := st9.kr.here.cell 0 _ rfl
      have fz0 := Lib.frozen_of_heap st9.kr.here 0
      have cz1 := st9.kr.here.cell 1 _ rfl
      have fz1 := Lib.frozen_of_heap st9.kr.here 1
      have cz2 := st9.kr.here.cell 2 _ rfl
      have fz2 := Lib.frozen_of_heap st9.kr.here 2
      have HW9 := Lib.hid (drawQ_at3 (q := Q) (c0 := .bool Q.1.1) (c1 := .slice A8 Q.1.2.length c8) (c2 := .slice B8 Q.2.length d8) st9.gl (HQ.out rfl) o9 (fun i hi => ⟨by have := (l8 i hi).1; omega, o9.lt i hi⟩) st9.cur st9.chg)
      clear st8 st9 o8 o9 kq hal8
      go_wp2
      refine bodyPost_ret (v := .agg #[.bool _, .slice A8 _ c8, .slice B8 _ d8]) (by simp [results, Tryd.results86, go_sem, cz0, cz1, cz2]; exact ⟨rfl, rfl, rfl⟩) rfl ?_
      exact HW9.out
    | false =>
      have st9 := st8.below hal8
      clear o8 kq
      go_wp2_with fail
      refine (specRatZero_any _).mono ?_
      rintro e w9 ⟨u9, S9, rfl, o9, l9, b9⟩
      obtain ⟨A9, c9, B9, d9, rfl⟩ := ownQ_form o9.here
      have st10 := st9.below b9
      have hz9 := hal8.size
      have cz0 := st10.kr.here.cell 0 _ rfl
      have fz0 := Lib.frozen_of_heap st10.kr.here 0
      have cz1 := st10.kr.here.cell 1 _ rfl
      have fz1 := Lib.frozen_of_heap st10.kr.here 1
      have cz2 := st10.kr.here.cell 2 _ rfl
      have fz2 := Lib.frozen_of_heap st10.kr.here 2
      have HW9 := Lib.hid (drawQ_at3 (q := oneQ) (c0 := .bool oneQ.1.1) (c1 := .slice A9 oneQ.1.2.length c9) (c2 := .slice B9 oneQ.2.length d9) st10.gl oneQ_bd3 o9 (fun i hi => ⟨by have := (l9 i hi).1; omega, o9.lt i hi⟩) st10.cur st10.chg)
      clear st8 st9 st10 o9 hal8
      go_wp2
      refine bodyPost_ret (v := .agg #[.bool _, .slice A9 _ c9, .slice B9 _ d9]) (by simp [results, Tryd.results86, go_sem, cz0, cz1, cz2]; exact ⟨rfl, rfl, rfl⟩) rfl ?_
      exact HW9.out
  | true =>
    go_wp2_with fail
    refine (l02Nat_any 2 g lo hi v bs _ (by omega) HB.out hn st5.cur st5.row hg).mono ?_
    rintro e w5 ⟨u5, xs, rfl, oky, hly, o5, hc5, hk5⟩
    obtain ⟨A5, c5, rfl⟩ := own_len o5
    have HY := Lib.hid (show natOkB xs = true ∧ xs.length ≤ 2 from ⟨oky, hly⟩)
    have st6 := st5.step hk5 hc5
    have kd6 := kd5.chg hk5 (fun i hi hm => by simp at hi hm; omega)
    have o6 := own_at' o5
    have ol : ∀ i ∈ (Value.slice A5 xs.length c5).ownBlock.toList, w4.heap.size ≤ i := fun i hi => (own_within o5 i hi).1
    have hz7 := hk5.size
    clear od5 oky hly
    go_wp2_with fail
    refine (l01Below_any 999 g lo hi v bs _ (by omega) (by omega) HB.out hn st6.cur st6.row hg).mono ?_
    rintro e w6 ⟨zz, hq0, hq1, rfl, hc6, hg6⟩
    have hk6 := Chg.of_cur hg6
    have st7 := st6.step hk6 hc6
    have kd7 := kd6.chg hk6 (fun i hi hm => by simp at hi hm; omega)
    have o7 : w6.ownsRow w4.heap.size 3 1 (.slice A5 xs.length c5) xs.length (intsV xs) := own_stays o5 (fun i hi => hk6.block i (own_lt o5 hi).2 (by have := (own_lt o5 hi).1; simp; omega))
    have HDD := Lib.hid (den_two3 HY.out.1 HY.out.2 hq0 hq1)
    obtain ⟨p, hp⟩ : ∃ p, 1 + zz = p := ⟨_, rfl⟩
    have HP := Lib.hid hp
    rw [hp] at HDD
    have hz8' := hk6.size
    have hd0 := kd7.here.cell 1 _ rfl
    have hf0 := Lib.frozen_of_heap kd7.here 1
    clear st6 kd6 o6
    go_wp2_with (at_builtin; (try rw [HP.out]); refine wpList_append_own _ rfl _ _ 22 rfl w4.heap.size 3 i0 (.int .i64 0) 1 8 Tryd.underlying22 hi0 hz0 hz1 hz2 rfl (by decide) _ _ _ rfl (own_alloc o7 _) ⟨w6.heap.size, 0, none⟩ 1 1 [.int .i64 p] rfl rfl (one_new _ _ _) ?c2 ?c3 ?c4 ?c5 ?_)
    case c2 => first | (intro u hu; simp at hu; subst hu; rfl) | rfl
    case c3 => unfold maxLen; have := HY.out.2; omega
    case c4 => have := HY.out.2; omega
    case c5 => simp; omega
    intro v7 w7 hown7 hg7 _
    have hk7 : Chg [g] w4 w7 := ((hk5.trans hk6).alloc _).new_row hg7 (fun j hj => (own_lt o5 hj).1)
    have hc7 : Cur w7 g v bs.length := (hc6.alloc _).grown hg7 (fun e => by have := (own_lt o5 e).1; omega)
    have st8 := st5.step hk7 hc7
    have kd8 := kd5.chg hk7 (fun i hi hm => by simp at hi hm; omega)
    rw [show intsV xs ++ [Value.int .i64 p] = intsV (xs ++ [p]) by simp [intsV]] at hown7
    obtain ⟨D2, hD2⟩ : ∃ D2, xs ++ [p] = D2 := ⟨_, rfl⟩
    have hlx : D2.length = xs.length + 1 := by rw [← hD2]; simp
    rw [hD2] at HDD hown7
    rw [← hlx] at hown7
    obtain ⟨A7, c7, rfl⟩ := own_len hown7
    have hz9 := hk7.size
    have hbx : w1.heap.size < w3.heap.size := by omega
    have odd : At (Value.slice A7 D2.length c7).ownBlock.toList (OwnI (.slice A7 D2.length c7) D2) (w7.setCell ⟨w3.heap.size, 1, none⟩ (.slice A7 D2.length c7)) := by
      have h := own_at' hown7
      exact h.chg ((Chg.refl [w3.heap.size] w7).setCell (by simp) _) (fun i hi hm => by have h2 := (own_within hown7 i hi).1; simp at hm; omega)
    have st8_ := st8.set ⟨w3.heap.size, 1, none⟩ (.slice A7 D2.length c7) (by simp; omega) (by simp; omega) (fun i hi => by have := (xl i hi); simp; omega)
    have kdd := set_one (c := .slice A7 D2.length c7) kd8.here
    have kd_0 := kd8.here.cell 0 _ rfl
    have kd_1 := kd8.here.cell 1 _ rfl
    have fd_1 := Lib.frozen_of_heap kd8.here 1
    have ke_0 := kdd.cell 0 _ rfl
    have ke_1 := kdd.cell 1 _ rfl
    have kx_0 := st8_.kx.here.cell 0 _ rfl
    have kx_1 := st8_.kx.here.cell 1 _ rfl
    have hzs : w7.heap.size = (w7.setCell ⟨w3.heap.size, 1, none⟩ (.slice A7 D2.length c7)).heap.size := by simp [World.setCell]
    clear hlx hD2 hown7 hg7 hk7 hc7 st8 kd8 o7 o5 st5 kd5 hc5 hk5 hc6 hg6 hk6 kd7 st7
    have hS := st8_.size
    go_wp2_with fail
    refine (specRatMake_any _ _ x (false, D2) _ (small_szS3 HX.out.2) (small_szS3 HDD.out.2) (OwnS.mk (x := x) st8_.ox.here) (OwnS.mk (x := (false, D2)) odd.here)).mono ?_
    rintro e w8 ⟨u8, S8, rfl, o8, l8, b8⟩
    have HQ := Lib.hid (makeQ_bd3 (n := x.1) (xs := x.2) HX.out.1 HX.out.2 HDD.out.1 HDD.out.2)
    rw [show ((x.1, x.2) : SI) = x from rfl] at HQ
    obtain ⟨⟨Q, bo⟩, hq⟩ : ∃ Q, makeQ x (false, D2) = Q := ⟨_, rfl⟩
    rw [hq] at o8 HQ ⊢
    obtain ⟨A8, c8, B8, d8, rfl⟩ := ownQ_form o8.here
    have st8 := st8_.below b8
    have hz8 := b8.size
    clear hq kdd odd st8_
    have hal8 := below_al (Below.refl w8.heap.size w8) (.cells #[.bool Q.1.1, .slice A8 Q.1.2.length c8, .slice B8 Q.2.length d8] 30)
    have kq := box_new w8 #[.bool Q.1.1, .slice A8 Q.1.2.length c8, .slice B8 Q.2.length d8] 30
    cases bo with
    | true =>
      have st9 := st8.below hal8
      have o9 := o8.below hal8
      have kq0 := kq.here.cell 0 _ rfl
      have kq1 := kq.here.cell 1 _ rfl
      have kq2 := kq.here.cell 2 _ rfl
      have cz0 := st9.kr.here.cell 0 _ rfl
      have fz0 := Lib.frozen_of_heap st9.kr.here 0
      have cz1 := st9.kr.here.cell 1 _ rfl
      have fz1 := Lib.frozen_of_heap st9.kr.here 1
      have cz2 := st9.kr.here.cell 2 _ rfl
      have fz2 := Lib.frozen_of_heap st9.kr.here 2
      have HW9 := Lib.hid (drawQ_at3 (q := Q) (c0 := .bool Q.1.1) (c1 := .slice A8 Q.1.2.length c8) (c2 := .slice B8 Q.2.length d8) st9.gl (HQ.out rfl) o9 (fun i hi => ⟨by have := (l8 i hi).1; omega, o9.lt i hi⟩) st9.cur st9.chg)
      clear st8 st9 o8 o9 kq hal8
      go_wp2
      refine bodyPost_ret (v := .agg #[.bool _, .slice A8 _ c8, .slice B8 _ d8]) (by simp [results, Tryd.results86, go_sem, cz0, cz1, cz2]; exact ⟨rfl, rfl, rfl⟩) rfl ?_
      exact HW9.out
    | false =>
      have st9 := st8.below hal8
      clear o8 kq
      go_wp2_with fail
      refine (specRatZero_any _).mono ?_
      rintro e w9 ⟨u9, S9, rfl, o9, l9, b9⟩
      obtain ⟨A9, c9, B9, d9, rfl⟩ := ownQ_form o9.here
      have st10 := st9.below b9
      have hz9 := hal8.size
      have cz0 := st10.kr.here.cell 0 _ rfl
      have fz0 := Lib.frozen_of_heap st10.kr.here 0
      have cz1 := st10.kr.here.cell 1 _ rfl
      have fz1 := Lib.frozen_of_heap st10.kr.here 1
      have cz2 := st10.kr.here.cell 2 _ rfl
      have fz2 := Lib.frozen_of_heap st10.kr.here 2
      have HW9 := Lib.hid (drawQ_at3 (q := oneQ) (c0 := .bool oneQ.1.1) (c1 := .slice A9 oneQ.1.2.length c9) (c2 := .slice B9 oneQ.2.length d9) st10.gl oneQ_bd3 o9 (fun i hi => ⟨by have := (l9 i hi).1; omega, o9.lt i hi⟩) st10.cur st10.chg)
      clear st8 st9 st10 o9 hal8
      go_wp2
      refine bodyPost_ret (v := .agg #[.bool _, .slice A9 _ c9, .slice B9 _ d9]) (by simp [results, Tryd.results86, go_sem, cz0, cz1, cz2]; exact ⟨rfl, rfl, rfl⟩) rfl ?_
      exact HW9.out
/-- a drawn fraction, new -/
def NearPost (w : World) (e : Ending) (w' : World) : Prop :=
  ∃ (u : Value) (q : QI) (S : List Nat), e = .returned u ∧ Bd q 3 ∧ At S (OwnQ u q) w' ∧ Within S w.heap.size w'.heap.size ∧ Below w.heap.size w w'
theorem near_at {B : Nat} {S : List Nat} {c0 c1 c2 : Value} {q : QI} {w W : World} (hq : Bd q 3) (o : At S (OwnQ (.agg #[c0, c1, c2]) q) W) (l : Within S B W.heap.size) (hB : w.heap.size < B) (hW : Below w.heap.size w W) :
    NearPost w (.returned (.agg #[c0, c1, c2])) (((W.setCell ⟨w.heap.size, 0, none⟩ c0).setCell ⟨w.heap.size, 1, none⟩ c1).setCell ⟨w.heap.size, 2, none⟩ c2) := by
  have hc := set3_chg w.heap.size c0 c1 c2 W
  have hz := hc.size
  exact ⟨_, q, S, rfl, hq, o.chg hc (fun i hi hm => by have := l i hi; simp at hm; omega), fun i hi => by have := l i hi; omega, below_set3 hW (Nat.le_refl _)⟩
theorem near_made {x p : Int} (h0 : 0 ≤ x) (h1 : x < 41) (hp : p ∈ [2, 2, 4, 3, 1]) : (-9223372036854775808 ≤ p ∧ p ≤ 9223372036854775807) ∧ Bd (makeQ (ofZ (x - 20)) (ofZ p)).1 3 := by
  have hp2 : 1 ≤ p ∧ p ≤ 4 := by simp at hp; omega
  have e : valS (ofZ (x - 20)) = x - 20 := small_ofZ (k := 1) (by have : bp 1 = 1000000000 := rfl; omega) (by omega)
  have h3 : bp 1 ≤ bp 3 := bp_mono (by omega)
  have b1 : bp 1 = 1000000000 := rfl
  exact ⟨by omega, (quot_is (ofZ_ok (x - 20)) (k := 3) (by omega) (by omega) (by rw [e]; omega) hp2.1 (by omega)).2.1⟩
set_option maxHeartbeats 2000000 in
set_option maxRecDepth 100000 in
theorem makeNear_any (v : Value) (bs : List Nat) (w : World) (hb : ∀ b ∈ bs, b < 256) (hn : bs.length ≤ 1048576) (hr : Row w 0 w.heap.size v (bytesV bs)) :
    Calls Tryd.prog 33 #[v] w (NearPost w) := by
  have HB := Lib.hid hb
  clear hb
  have bb0 : Below w.heap.size w (w.alloc (.cells #[.bool false, .slice none 0 0, .slice none 0 0] 30)) := below_al (Below.refl _ _) _
  have ko := box_new w #[.bool false, .slice none 0 0, .slice none 0 0] 30
  obtain ⟨W0, hW0⟩ : ∃ W0, W0 = w.alloc (.cells #[.bool false, .slice none 0 0, .slice none 0 0] 30) := ⟨_, rfl⟩
  rw [← hW0] at bb0 ko
  have HW := Lib.hid hW0
  have hr0 := hr.below bb0 (Nat.le_refl _)
  have hz0 := ko.lt w.heap.size (by simp)
  clear hW0 hr
  go_enter Tryd.func33, Tryd.ntmps33
  go_wp2_with fail
  rw [← HW.out]
  refine (l01New_any 0 w.heap.size v bs _ HB.out hn hr0).mono ?_
  rintro e w1 ⟨g, hg, rfl, hc1, b1⟩
  have hr1 := hr0.below b1 (by omega)
  replace ko := ko.below b1
  have bb1 := Below.next bb0 b1
  have hgl := hc1.lt
  have hwg : w.heap.size < g := by omega
  clear hr0 bb0
  go_wp2_with fail
  refine (l01Once_any 2 g 0 w.heap.size v bs _ (by omega) (by omega) HB.out hn hc1 hr1 (by omega)).mono ?_
  rintro e w2 ⟨b, rfl, hc2, hg2⟩
  have hk2 := Chg.of_cur hg2
  have hr2 := hr1.far hg2 (by omega)
  replace ko := ko.chg hk2 (fun i hi hm => by simp at hi hm; omega)
  have bb2 := below_chg bb1 hk2 bb1.size (fun i hi => by simp at hi; omega)
  have hz2 := hk2.size
  clear hr1 hc1 hg2 hk2
  cases b with
  | true =>
    go_wp2_with fail
    refine (l01Below_any 41 g 0 w.heap.size v bs _ (by omega) (by omega) HB.out hn hc2 hr2 (by omega)).mono ?_
    rintro e w3 ⟨x, hx0, hx1, rfl, hc3, hg3⟩
    have hk3 := Chg.of_cur hg3
    have hr3 := hr2.far hg3 (by omega)
    replace ko := ko.chg hk3 (fun i hi hm => by simp at hi hm; omega)
    have bb3 := below_chg bb2 hk3 bb2.size (fun i hi => by simp at hi; omega)
    have hz3 := hk3.size
    clear hr2 hc2 hg3 hk3 bb2
    have HNM := Lib.hid (fun p hp => near_made (x := x) (p := p) hx0 hx1 hp)
    go_wp2_with fail
    refine ((specIntOf_any (x - 20) _ (by omega) (by omega)).mono fun _ _ h => NewS.newV h).mono ?_
    rintro e w4 ⟨u4, S4, rfl, o4, l4, b4⟩
    obtain ⟨A4, c4, rfl⟩ := ownS_form o4.here
    have HZ4 := Lib.hid (szS_50 (ofZ_ok (x - 20)))
    generalize ofZ (x - 20) = X at *
    have hr4 := hr3.below b4 (by omega)
    replace ko := ko.below b4
    have bb4 := Below.next bb3 b4
    have hc4 := hc3.below b4
    have hz4 := b4.size
    clear hr3 hc3 bb3 b4
    have al5 := below_al (Below.refl w4.heap.size w4) (.cells #[.int .i64 2, .int .i64 2, .int .i64 4, .int .i64 3, .int .i64 1] 3)
    have hz5 : (w4.alloc (.cells #[.int .i64 2, .int .i64 2, .int .i64 4, .int .i64 3, .int .i64 1] 3)).heap.size = w4.heap.size + 1 := by simp
    go_wp2_with fail
    refine (l01Pick_any [2, 2, 4, 3, 1] _ w4.heap.size (w4.heap.size + 1) g 0 w.heap.size v bs _ (by simp) (by simp) HB.out hn (hc4.alloc _) (hr4.below al5 (by have := hc4.lt; omega)) (by omega) (Row.lit w4 #[.int .i64 2, .int .i64 2, .int .i64 4, .int .i64 3, .int .i64 1] _) (.inr hc4.lt)).mono ?_
    rintro e w6 ⟨p, hp, rfl, hc6, hg6⟩
    have hk6 := Chg.of_cur hg6
    have hr6 := (hr4.below al5 (by have := hc4.lt; omega)).far hg6 (by omega)
    replace ko := (ko.below al5).chg hk6 (fun i hi hm => by simp at hi hm; omega)
    have o6 := (o4.below al5).chg hk6 (fun i hi hm => by have := (l4 i hi).1; simp at hm; omega)
    have bb6 := below_chg (Below.next bb4 al5) hk6 (by omega) (fun i hi => by simp at hi; omega)
    have hz6 := hk6.size
    obtain ⟨⟨p0, p1⟩, hbq⟩ := HNM.out p hp
    have HBQ := Lib.hid hbq
    clear hr4 hc4 hg6 hk6 al5 o4 bb4 hbq HNM hp
    go_wp2_with fail
    refine ((specIntOf_any p _ p0 p1).mono fun _ _ h => NewS.newV h).mono ?_
    rintro e w7 ⟨u7, S7, rfl, o7, l7, b7⟩
    obtain ⟨A7, c7, rfl⟩ := ownS_form o7.here
    have HZ7 := Lib.hid (szS_50 (ofZ_ok p))
    generalize ofZ p = Y at *
    replace ko := ko.below b7
    have o8 := o6.below b7
    have bb7 := Below.next bb6 b7
    have hz7 := b7.size
    clear hr6 hc6 o6 bb6 b7 p0 p1
    go_wp2_with fail
    refine (specRatMake_any _ _ X Y _ HZ4.out HZ7.out o8.here o7.here).mono ?_
    rintro e w9 ⟨uf, Sf, rfl, of, lf, b9⟩
    obtain ⟨Af, cf, Bf, df, rfl⟩ := ownQ_form of.here
    generalize (makeQ X Y).1 = q at *
    generalize (makeQ X Y).2 = bo at *
    have alr := below_al (Below.refl w9.heap.size w9) (.cells #[.bool q.1.1, .slice Af q.1.2.length cf, .slice Bf q.2.length df] 30)
    have kr := box_new w9 #[.bool q.1.1, .slice Af q.1.2.length cf, .slice Bf q.2.length df] 30
    replace ko := (ko.below b9).below alr
    have bb9 := Below.next (Below.next bb7 b9) alr
    have og := of.below alr
    have lg := within_up lf (Nat.le_refl _) alr.size
    have HFIN := Lib.hid (near_at (w := w) HBQ.out og lg (by omega) bb9)
    have cz0 := ko.here.cell 0 _ rfl
    have fz0 := Lib.frozen_of_heap ko.here 0
    have cz1 := ko.here.cell 1 _ rfl
    have fz1 := Lib.frozen_of_heap ko.here 1
    have cz2 := ko.here.cell 2 _ rfl
    have fz2 := Lib.frozen_of_heap ko.here 2
    have cr0 := kr.here.cell 0 _ rfl
    have cr1 := kr.here.cell 1 _ rfl
    have cr2 := kr.here.cell 2 _ rfl
    clear og lg of lf o7 o8 kr ko alr bb7 bb9
    go_wp2
    refine bodyPost_ret (v := .agg #[.bool _, .slice Af _ cf, .slice Bf _ df]) (by simp [results, Tryd.results33, go_sem, cz0, cz1, cz2]; exact ⟨rfl, rfl, rfl⟩) rfl ?_
    exact HFIN.out
  | false =>
    go_wp2_with fail
    refine (l05Draw_any3 g 0 w.heap.size v bs _ HB.out hn hc2 hr2 (by omega)).mono ?_
    rintro e w3 ⟨u3, q, Sf, rfl, hbr, of, lf, hc3, hk3⟩
    obtain ⟨Af, cf, Bf, df, rfl⟩ := ownQ_form of.here
    replace ko := ko.chg hk3 (fun i hi hm => by simp at hi hm; omega)
    have bb3 := below_chg bb2 hk3 bb2.size (fun i hi => by simp at hi; omega)
    have HFIN := Lib.hid (near_at (w := w) hbr of lf (by omega) bb3)
    have cz0 := ko.here.cell 0 _ rfl
    have fz0 := Lib.frozen_of_heap ko.here 0
    have cz1 := ko.here.cell 1 _ rfl
    have fz1 := Lib.frozen_of_heap ko.here 1
    have cz2 := ko.here.cell 2 _ rfl
    have fz2 := Lib.frozen_of_heap ko.here 2
    clear of lf ko bb2 bb3 hbr
    go_wp2
    refine bodyPost_ret (v := .agg #[.bool _, .slice Af _ cf, .slice Bf _ df]) (by simp [results, Tryd.results33, go_sem, cz0, cz1, cz2]; exact ⟨rfl, rfl, rfl⟩) rfl ?_
    exact HFIN.out
end Go.Proofs.YthfkdofnoomhaaaDoor

namespace Go.Proofs.YthfkdofnoomhaaaDoor
open Go.RowKit

def turnL : List Int := [0, 1, 3, 2, 4, 5, 6]
theorem turnL_at (k : Nat) (h : k < turnL.length) : turnL[k] = turnedM k := by
  have : k = 0 ∨ k = 1 ∨ k = 2 ∨ k = 3 ∨ k = 4 ∨ k = 5 ∨ k = 6 := by simp [turnL] at h; omega
  rcases this with rfl | rfl | rfl | rfl | rfl | rfl | rfl <;> rfl
theorem turn_cell (k : Nat) (h : k < 7) : (#[.int .i64 0, .int .i64 1, .int .i64 3, .int .i64 2, .int .i64 4, .int .i64 5, .int .i64 6] : Array Value)[k]? = some (.int .i64 (turnL[k]'(by simp [turnL]; omega))) := by
  rcases (show k = 0 ∨ k = 1 ∨ k = 2 ∨ k = 3 ∨ k = 4 ∨ k = 5 ∨ k = 6 by omega) with rfl | rfl | rfl | rfl | rfl | rfl | rfl <;> rfl
theorem turnedM_ok {m : Int} (h : modeB m = true) : modeB (turnedM m) = true := by rcases modeB_cases h with rfl | rfl | rfl | rfl | rfl | rfl | rfl <;> rfl
theorem name_back {m : Int} (h : modeB m = true) : modeOf (nameB m) = (m, true) := by
  rcases modeB_cases h with rfl | rfl | rfl | rfl | rfl | rfl | rfl
  · exact modeFrom_hit rfl
  · exact (modeFrom_miss (by decide)).trans (modeFrom_hit rfl)
  · exact (modeFrom_miss (by decide)).trans ((modeFrom_miss (by decide)).trans (modeFrom_hit rfl))
  · exact (modeFrom_miss (by decide)).trans ((modeFrom_miss (by decide)).trans ((modeFrom_miss (by decide)).trans (modeFrom_hit rfl)))
  · exact (modeFrom_miss (by decide)).trans ((modeFrom_miss (by decide)).trans ((modeFrom_miss (by decide)).trans ((modeFrom_miss (by decide)).trans (modeFrom_hit rfl))))
  · exact (modeFrom_miss (by decide)).trans ((modeFrom_miss (by decide)).trans ((modeFrom_miss (by decide)).trans ((modeFrom_miss (by decide)).trans ((modeFrom_miss (by decide)).trans (modeFrom_hit rfl)))))
  · exact (modeFrom_miss (by decide)).trans ((modeFrom_miss (by decide)).trans ((modeFrom_miss (by decide)).trans ((modeFrom_miss (by decide)).trans ((modeFrom_miss (by decide)).trans ((modeFrom_miss (by decide)).trans (modeFrom_hit rfl))))))
theorem round_yes {r : QI} {m : Int} (h : okQ r = true) (hm : modeB m = true) : roundR r m = (roundS r m, true) := by unfold roundR; rw [if_pos ⟨h, hm⟩]
theorem postnb_is {a x : Int} {b y : Bool} (h : (a, b) = (x, y)) {w w' : World} {n : Ending} (e : Postnb a b w n w') : Postnb x y w n w' := by injection h with h1 h2; subst h1 h2; exact e
/-- what one round wants to know -/
theorem mode_facts {r s : QI} {lo hi : SI} {m : Int} (h : Bd r 3) (hs : (negQ r).1 = s) (hok : okQ s = true) (hlo : roundS r 2 = lo) (hhi : roundS r 3 = hi) (h0 : 0 ≤ m) (h1 : m ≤ 6) :
    ∃ x y : SI, Hid (roundR r m = (x, true) ∧ roundR s (turnedM m) = (y, true)) ∧ Hid (szS x ≤ 1048576 ∧ szS y ≤ 1048576 ∧ szS (negS y) ≤ 1048576) ∧ Hid (cmpS lo x ≤ 0 ∧ cmpS x hi ≤ 0 ∧ cmpS x (negS y) = 0) := by
  have hm : modeB m = true := decide_eq_true ⟨h0, h1⟩
  obtain ⟨x, y, HA⟩ := mode_all h hm
  refine ⟨x, y, Lib.hid ⟨by rw [round_yes h.ok hm, HA.ex], by rw [round_yes hok (turnedM_ok hm), ← HA.ey, hs]⟩, Lib.hid ⟨HA.lx, HA.ly, szS_50 (negS_ok _)⟩, Lib.hid ⟨by rw [← hlo]; exact HA.lo, by rw [← hhi]; exact HA.hi, HA.ng⟩⟩
theorem postSb_eq2 {q : SI × Bool} {X : SI} {b : Bool} (e : q = (X, b)) {w w' : World} {n : Ending} (h : PostSb q.1 q.2 w n w') : PostSb X b w n w' := by rw [e] at h; exact h
set_option maxHeartbeats 8000000 in
set_option maxRecDepth 100000 in
theorem lawModes_small (v : Value) (bs : List Nat) (w : World) (hb : ∀ b ∈ bs, b < 256) (hn : bs.length ≤ 1048576) (hr : Row w 0 w.heap.size v (bytesV bs)) (hs : Sen w) :
    Calls Tryd.prog 8 #[v] w fun e w' => e = .returned (.bool true) ∧ Below w.heap.size w w' := by
  have HB := Lib.hid hb
  clear hb
  have hr0 := hr
  obtain ⟨A0, c0, rfl, _⟩ := hr
  have hlen : (bytesV bs).length = bs.length := by simp [bytesV]
  rw [hlen] at hr0 ⊢
  clear hlen
  have HRB := Lib.hid hr0
  have HS := Lib.hid hs
  clear hr0 hs
  have bb0 : Below w.heap.size w w := Below.refl _ _
  go_enter Tryd.func8, Tryd.ntmps8
  go_wp2_with fail
  refine (makeNear_any _ bs _ HB.out hn HRB.out).mono ?_
  rintro e w11 ⟨ur, r, Sr, rfl, hbd, o_r, _, b11⟩
  obtain ⟨Pr, er, Br, dr, rfl⟩ := ownQ_form o_r.here
  have bb11 := Below.next bb0 b11
  have kr := box_new (w11) #[.bool r.1.1, .slice Pr r.1.2.length er, .slice Br r.2.length dr] 30
  have alr := below_al (Below.refl (w11).heap.size (w11)) (.cells #[.bool r.1.1, .slice Pr r.1.2.length er, .slice Br r.2.length dr] 30)
  have bbr := Below.next bb11 alr
  replace o_r := o_r.below alr
  have HBD := Lib.hid hbd
  have hzr := bd_sz hbd (by omega)
  have hneg := neg_bd hbd
  obtain ⟨s, hes⟩ : ∃ s, (negQ r).1 = s := ⟨_, rfl⟩
  rw [hes] at hneg
  have HES := Lib.hid hes
  have HNQ := Lib.hid (show negQ r = (s, true) by rw [← hes]; exact pair_eq hneg.1)
  have HBS := Lib.hid hneg.2.1
  have hzs := bd_sz hneg.2.1 (by omega)
  obtain ⟨lo, hlo⟩ : ∃ x, roundS r 2 = x := ⟨_, rfl⟩
  obtain ⟨hi, hhi⟩ : ∃ x, roundS r 3 = x := ⟨_, rfl⟩
  obtain ⟨ev, hev⟩ : ∃ x, roundS r 6 = x := ⟨_, rfl⟩
  have HLO := Lib.hid hlo
  have HHI := Lib.hid hhi
  have HEV := Lib.hid hev
  have HRlo := Lib.hid (show roundR r 2 = (lo, true) by rw [round_yes hbd.ok rfl, hlo])
  have hzlo : szS lo ≤ 1048576 := by rw [← hlo]; exact roundS_sz _ _
  have HRhi := Lib.hid (show roundR r 3 = (hi, true) by rw [round_yes hbd.ok rfl, hhi])
  have hzhi : szS hi ≤ 1048576 := by rw [← hhi]; exact roundS_sz _ _
  have HRev := Lib.hid (show roundR r 6 = (ev, true) by rw [round_yes hbd.ok rfl, hev])
  have hzev : szS ev ≤ 1048576 := by rw [← hev]; exact roundS_sz _ _
  have HHALF := Lib.hid (show halfB r = true → evenB ev.2 = true by rw [← hev]; exact even_half hbd.ok)
  clear hbd hneg hes hlo hhi hev
  have kr_c0 := kr.here.cell 0 _ rfl
  have kr_c1 := kr.here.cell 1 _ rfl
  have kr_c2 := kr.here.cell 2 _ rfl
  go_wp2_with fail
  clear kr_c0 kr_c1 kr_c2
  refine ((implRatNeg_any _ r _ hzr o_r.here (HS.out.below bbr)).mono fun _ _ h => postQb_eq HNQ.out h).mono ?_
  rintro e w12 ⟨us, Ss, rfl, o_s, _, b12⟩
  obtain ⟨Ps, es, Bs, ds, rfl⟩ := ownQ_form o_s.here
  have bb12 := Below.next bbr b12
  replace o_r := o_r.below b12
  replace kr := kr.below b12
  replace o_s : At Ss (OwnQ (.agg #[.bool s.1.1, .slice Ps s.1.2.length es, .slice Bs s.2.length ds]) s) _ := o_s
  have ks := box_new (w12) #[.bool s.1.1, .slice Ps s.1.2.length es, .slice Bs s.2.length ds] 30
  have als := below_al (Below.refl (w12).heap.size (w12)) (.cells #[.bool s.1.1, .slice Ps s.1.2.length es, .slice Bs s.2.length ds] 30)
  have bbs := Below.next bb12 als
  replace o_r := o_r.below als
  replace kr := kr.below als
  replace o_s := o_s.below als
  have kr_c0 := kr.here.cell 0 _ rfl
  have kr_c1 := kr.here.cell 1 _ rfl
  have kr_c2 := kr.here.cell 2 _ rfl
  go_wp2_with fail
  clear kr_c0 kr_c1 kr_c2
  refine ((implRatFloor_any _ r _ hzr o_r.here (HS.out.below bbs)).mono fun _ _ h => postSb_eq2 HRlo.out h).mono ?_
  rintro e w13 ⟨ul, Sl, rfl, o_l, _, b13⟩
  obtain ⟨Pl, el, rfl⟩ := ownS_form o_l.here
  have bb13 := Below.next bbs b13
  replace o_r := o_r.below b13
  replace kr := kr.below b13
  replace o_s := o_s.below b13
  replace ks := ks.below b13
  have kl := box_new (w13) #[.bool lo.1, .slice Pl lo.2.length el] 28
  have all := below_al (Below.refl (w13).heap.size (w13)) (.cells #[.bool lo.1, .slice Pl lo.2.length el] 28)
  have bbl := Below.next bb13 all
  replace o_r := o_r.below all
  replace kr := kr.below all
  replace o_s := o_s.below all
  replace ks := ks.below all
  replace o_l := o_l.below all
  have kr_c0 := kr.here.cell 0 _ rfl
  have kr_c1 := kr.here.cell 1 _ rfl
  have kr_c2 := kr.here.cell 2 _ rfl
  go_wp2_with fail
  clear kr_c0 kr_c1 kr_c2
  refine ((implRatRound_any _ r 3 _ hzr o_r.here (HS.out.below bbl)).mono fun _ _ h => postSb_eq2 HRhi.out h).mono ?_
  rintro e w14 ⟨uh, Sh, rfl, o_h, _, b14⟩
  obtain ⟨Ph, eh, rfl⟩ := ownS_form o_h.here
  have bb14 := Below.next bbl b14
  replace o_r := o_r.below b14
  replace kr := kr.below b14
  replace o_s := o_s.below b14
  replace ks := ks.below b14
  replace o_l := o_l.below b14
  replace kl := kl.below b14
  have kh := box_new (w14) #[.bool hi.1, .slice Ph hi.2.length eh] 28
  have alh := below_al (Below.refl (w14).heap.size (w14)) (.cells #[.bool hi.1, .slice Ph hi.2.length eh] 28)
  have bbh := Below.next bb14 alh
  replace o_r := o_r.below alh
  replace kr := kr.below alh
  replace o_s := o_s.below alh
  replace ks := ks.below alh
  replace o_l := o_l.below alh
  replace kl := kl.below alh
  replace o_h := o_h.below alh
  have kz := box_new ((w14.alloc (.cells #[.bool hi.1, .slice Ph hi.2.length eh] 28))) #[.int .i64 0, .int .i64 1, .int .i64 3, .int .i64 2, .int .i64 4, .int .i64 5, .int .i64 6] 3
  have alz := below_al (Below.refl ((w14.alloc (.cells #[.bool hi.1, .slice Ph hi.2.length eh] 28))).heap.size ((w14.alloc (.cells #[.bool hi.1, .slice Ph hi.2.length eh] 28)))) (.cells #[.int .i64 0, .int .i64 1, .int .i64 3, .int .i64 2, .int .i64 4, .int .i64 5, .int .i64 6] 3)
  have bbz := Below.next bbh alz
  replace o_r := o_r.below alz
  replace kr := kr.below alz
  replace o_s := o_s.below alz
  replace ks := ks.below alz
  replace o_l := o_l.below alz
  replace kl := kl.below alz
  replace o_h := o_h.below alz
  replace kh := kh.below alz
  rw [show (w14.alloc (.cells #[.bool hi.1, .slice Ph hi.2.length eh] 28)).heap.size = w14.heap.size + 1 by simp] at kz
  go_wp2
  go_loopw [44] (fun i wx => ∃ k : Nat, k ≤ 7 ∧ i = .int .i64 k ∧ At [w11.heap.size] (BoxAt (w11.heap.size) #[.bool r.1.1, .slice Pr r.1.2.length er, .slice Br r.2.length dr] 30) wx ∧ At [w12.heap.size] (BoxAt (w12.heap.size) #[.bool s.1.1, .slice Ps s.1.2.length es, .slice Bs s.2.length ds] 30) wx ∧ At [w13.heap.size] (BoxAt (w13.heap.size) #[.bool lo.1, .slice Pl lo.2.length el] 28) wx ∧ At [w14.heap.size] (BoxAt (w14.heap.size) #[.bool hi.1, .slice Ph hi.2.length eh] 28) wx ∧ At [w14.heap.size + 1] (BoxAt (w14.heap.size + 1) #[.int .i64 0, .int .i64 1, .int .i64 3, .int .i64 2, .int .i64 4, .int .i64 5, .int .i64 6] 3) wx ∧ At Sr (OwnQ (.agg #[.bool r.1.1, .slice Pr r.1.2.length er, .slice Br r.2.length dr]) r) wx ∧ At Ss (OwnQ (.agg #[.bool s.1.1, .slice Ps s.1.2.length es, .slice Bs s.2.length ds]) s) wx ∧ At Sl (OwnS (.agg #[.bool lo.1, .slice Pl lo.2.length el]) lo) wx ∧ At Sh (OwnS (.agg #[.bool hi.1, .slice Ph hi.2.length eh]) hi) wx ∧ Below w.heap.size w wx) (fun i _ => 7 - (intOf i).toNat)
  case atStart => exact ⟨0, by omega, rfl, kr, ks, kl, kh, kz, o_r, o_s, o_l, o_h, bbz⟩
  case round =>
    clear kr ks kl kh kz o_r o_s o_l o_h bbz
    obtain ⟨k, hk, rfl, kr, ks, kl, kh, kz, o_r, o_s, o_l, o_h, bbr⟩ := hrel
    by_cases hlt : k < 7
    · obtain ⟨x, y, HX, HZ, HC⟩ := mode_facts (m := k) HBD.out HES.out HBS.out.ok HLO.out HHI.out (by omega) (by omega)
      have hkm : modeB k = true := decide_eq_true ⟨by omega, by omega⟩
      have HNB := Lib.hid (name_back hkm)
      clear hkm
      have hca : wr.cell? ⟨w14.heap.size + 1, k, none⟩ = some (.int .i64 (turnedM k)) := kz.here.cell k _ (by rw [← turnL_at k (by simp [turnL]; omega)]; exact turn_cell k hlt)
      generalize turnedM k = om at *
      have kr_c0 := kr.here.cell 0 _ rfl
      have kr_c1 := kr.here.cell 1 _ rfl
      have kr_c2 := kr.here.cell 2 _ rfl
      go_wp2_with fail
      clear kr_c0 kr_c1 kr_c2
      refine ((implRatRound_any _ r k _ hzr o_r.here (HS.out.below bbr)).mono fun _ _ h => postSb_eq2 HX.out.1 h).mono ?_
      rintro e w1 ⟨ux, Sx, rfl, o_x, _, b1⟩
      clear hca
      obtain ⟨Px, ex, rfl⟩ := ownS_form o_x.here
      have bb1 := Below.next bbr b1
      replace kr := kr.below b1
      replace ks := ks.below b1
      replace kl := kl.below b1
      replace kh := kh.below b1
      replace kz := kz.below b1
      replace o_r := o_r.below b1
      replace o_s := o_s.below b1
      replace o_l := o_l.below b1
      replace o_h := o_h.below b1
      have kx := box_new (w1) #[.bool x.1, .slice Px x.2.length ex] 28
      have alx := below_al (Below.refl (w1).heap.size (w1)) (.cells #[.bool x.1, .slice Px x.2.length ex] 28)
      have bbx := Below.next bb1 alx
      replace kr := kr.below alx
      replace ks := ks.below alx
      replace kl := kl.below alx
      replace kh := kh.below alx
      replace kz := kz.below alx
      replace o_r := o_r.below alx
      replace o_s := o_s.below alx
      replace o_l := o_l.below alx
      replace o_h := o_h.below alx
      replace o_x := o_x.below alx
      have ks_c0 := ks.here.cell 0 _ rfl
      have ks_c1 := ks.here.cell 1 _ rfl
      have ks_c2 := ks.here.cell 2 _ rfl
      go_wp2_with fail
      clear ks_c0 ks_c1 ks_c2
      refine ((implRatRound_any _ s om _ hzs o_s.here (HS.out.below bbx)).mono fun _ _ h => postSb_eq2 HX.out.2 h).mono ?_
      rintro e w2 ⟨uy, Sy, rfl, o_y, _, b2⟩
      obtain ⟨Py, ey, rfl⟩ := ownS_form o_y.here
      have bb2 := Below.next bbx b2
      replace kr := kr.below b2
      replace ks := ks.below b2
      replace kl := kl.below b2
      replace kh := kh.below b2
      replace kz := kz.below b2
      replace o_r := o_r.below b2
      replace o_s := o_s.below b2
      replace o_l := o_l.below b2
      replace o_h := o_h.below b2
      replace o_x := o_x.below b2
      replace kx := kx.below b2
      have ky := box_new (w2) #[.bool y.1, .slice Py y.2.length ey] 28
      have aly := below_al (Below.refl (w2).heap.size (w2)) (.cells #[.bool y.1, .slice Py y.2.length ey] 28)
      have bby := Below.next bb2 aly
      replace kr := kr.below aly
      replace ks := ks.below aly
      replace kl := kl.below aly
      replace kh := kh.below aly
      replace kz := kz.below aly
      replace o_r := o_r.below aly
      replace o_s := o_s.below aly
      replace o_l := o_l.below aly
      replace o_h := o_h.below aly
      replace o_x := o_x.below aly
      replace kx := kx.below aly
      replace o_y := o_y.below aly
      go_wp2_with fail
      refine (implRmName_any k _).mono ?_
      rintro e w3 ⟨rfl, b3⟩
      have bb3 := Below.next bby b3
      replace kr := kr.below b3
      replace ks := ks.below b3
      replace kl := kl.below b3
      replace kh := kh.below b3
      replace kz := kz.below b3
      replace o_r := o_r.below b3
      replace o_s := o_s.below b3
      replace o_l := o_l.below b3
      replace o_h := o_h.below b3
      replace o_x := o_x.below b3
      replace kx := kx.below b3
      replace o_y := o_y.below b3
      replace ky := ky.below b3
      go_wp2_with fail
      refine ((implNameRm_any (nameB k) _).mono fun _ _ h => postnb_is HNB.out h).mono ?_
      rintro e w4 ⟨rfl, b4⟩
      have bb4 := Below.next bb3 b4
      replace kr := kr.below b4
      replace ks := ks.below b4
      replace kl := kl.below b4
      replace kh := kh.below b4
      replace kz := kz.below b4
      replace o_r := o_r.below b4
      replace o_s := o_s.below b4
      replace o_l := o_l.below b4
      replace o_h := o_h.below b4
      replace o_x := o_x.below b4
      replace kx := kx.below b4
      replace o_y := o_y.below b4
      replace ky := ky.below b4
      obtain ⟨c1, hc1⟩ : ∃ c, cmpS lo x = c := ⟨_, rfl⟩
      obtain ⟨c2, hc2⟩ : ∃ c, cmpS x hi = c := ⟨_, rfl⟩
      obtain ⟨ny, hny⟩ : ∃ n, negS y = n := ⟨_, rfl⟩
      have hle1 : ¬ 0 < c1 := by have := HC.out.1; rw [hc1] at this; omega
      have hle2 : ¬ 0 < c2 := by have := HC.out.2.1; rw [hc2] at this; omega
      have d1 : decide (0 < c1) = false := decide_eq_false hle1
      have d2 : decide (0 < c2) = false := decide_eq_false hle2
      have HE1 := Lib.hid hc1
      have HE2 := Lib.hid hc2
      have HNY := Lib.hid hny
      have HE3 := Lib.hid (show cmpS x ny = 0 by rw [← hny]; exact HC.out.2.2)
      have zny : szS ny ≤ 1048576 := by rw [← hny]; exact HZ.out.2.2
      have zx := HZ.out.1
      have zy := HZ.out.2.1
      clear hc1 hc2 hny
      have C1 := Lib.hid (show ∀ W, Chg [] w4 W → Calls Tryd.prog 37 #[.agg #[.bool lo.1, .slice Pl lo.2.length el], .agg #[.bool x.1, .slice Px x.2.length ex]] W (Postn c1 W) from fun W hc => (implIntCmp_any _ _ lo x W (by unfold szS szI at hzlo; omega) (by unfold szS szI at zx; omega) (o_l.chg hc (fun i hi hm => by simp at hm)).here (o_x.chg hc (fun i hi hm => by simp at hm)).here).mono fun _ _ h => postn_eq HE1.out h)
      have C2 := Lib.hid (show ∀ W, Chg [] w4 W → Calls Tryd.prog 37 #[.agg #[.bool x.1, .slice Px x.2.length ex], .agg #[.bool hi.1, .slice Ph hi.2.length eh]] W (Postn c2 W) from fun W hc => (implIntCmp_any _ _ x hi W (by unfold szS szI at zx; omega) (by unfold szS szI at hzhi; omega) (o_x.chg hc (fun i hi hm => by simp at hm)).here (o_h.chg hc (fun i hi hm => by simp at hm)).here).mono fun _ _ h => postn_eq HE2.out h)
      have C3 := Lib.hid (show ∀ W, Chg [] w4 W → Calls Tryd.prog 38 #[.agg #[.bool y.1, .slice Py y.2.length ey]] W (NewV (fun u => OwnS u ny) W) from fun W hc => (implIntNeg_any _ y W (by unfold szS szI at zy; omega) (o_y.chg hc (fun i hi hm => by simp at hm)).here).mono fun _ _ h => by rw [HNY.out] at h; exact h.newV)
      have C4 := Lib.hid (show ∀ (u : Value) W, Chg [] w4 W → OwnS u ny W → Calls Tryd.prog 37 #[.agg #[.bool x.1, .slice Px x.2.length ex], u] W (Postn 0 W) from fun u W hc ho => (implIntCmp_any _ _ x ny W (by unfold szS szI at zx; omega) (by unfold szS szI at zny; omega) (o_x.chg hc (fun i hi hm => by simp at hm)).here ho).mono fun _ _ h => postn_eq HE3.out h)
      clear hle1 hle2
      have kl_c0 := kl.here.cell 0 _ rfl
      have kl_c1 := kl.here.cell 1 _ rfl
      have kx_c0 := kx.here.cell 0 _ rfl
      have kx_c1 := kx.here.cell 1 _ rfl
      have kh_c0 := kh.here.cell 0 _ rfl
      have kh_c1 := kh.here.cell 1 _ rfl
      have ky_c0 := ky.here.cell 0 _ rfl
      have ky_c1 := ky.here.cell 1 _ rfl
      go_wp2_with fail
      have HC0 := Lib.hid (show Chg [] w4 w4.drew from (Chg.refl _ _).drew1)
      have HCr := Lib.hid (show Chg [] w4 w4 from Chg.refl _ _)
      have KL := Lib.hid (show ∀ W, Chg [] w4 W → W.cell? ⟨w13.heap.size, 0, none⟩ = some (.bool lo.1) ∧ W.cell? ⟨w13.heap.size, 1, none⟩ = some (.slice Pl lo.2.length el) ∧ W.cell? ⟨w1.heap.size, 0, none⟩ = some (.bool x.1) ∧ W.cell? ⟨w1.heap.size, 1, none⟩ = some (.slice Px x.2.length ex) ∧ W.cell? ⟨w14.heap.size, 0, none⟩ = some (.bool hi.1) ∧ W.cell? ⟨w14.heap.size, 1, none⟩ = some (.slice Ph hi.2.length eh) ∧ W.cell? ⟨w2.heap.size, 0, none⟩ = some (.bool y.1) ∧ W.cell? ⟨w2.heap.size, 1, none⟩ = some (.slice Py y.2.length ey) ∧ Hid (Chg [] w4 W) from fun W hc => ⟨(kl.chg hc (fun i hi hm => by simp at hm)).here.cell 0 _ rfl, (kl.chg hc (fun i hi hm => by simp at hm)).here.cell 1 _ rfl, (kx.chg hc (fun i hi hm => by simp at hm)).here.cell 0 _ rfl, (kx.chg hc (fun i hi hm => by simp at hm)).here.cell 1 _ rfl, (kh.chg hc (fun i hi hm => by simp at hm)).here.cell 0 _ rfl, (kh.chg hc (fun i hi hm => by simp at hm)).here.cell 1 _ rfl, (ky.chg hc (fun i hi hm => by simp at hm)).here.cell 0 _ rfl, (ky.chg hc (fun i hi hm => by simp at hm)).here.cell 1 _ rfl, Lib.hid hc⟩)
      have BBF := Lib.hid (show ∀ W, Chg [] w4 W → Below w.heap.size w W from fun W hc => below_chg bb4 hc bb4.size (fun i hi => by simp at hi))
      clear kl_c0 kl_c1 kx_c0 kx_c1 kh_c0 kh_c1 ky_c0 ky_c1
      go_region_held3 (fun W => W.cell? ⟨w13.heap.size, 0, none⟩ = some (.bool lo.1) ∧ W.cell? ⟨w13.heap.size, 1, none⟩ = some (.slice Pl lo.2.length el) ∧ W.cell? ⟨w1.heap.size, 0, none⟩ = some (.bool x.1) ∧ W.cell? ⟨w1.heap.size, 1, none⟩ = some (.slice Px x.2.length ex) ∧ W.cell? ⟨w14.heap.size, 0, none⟩ = some (.bool hi.1) ∧ W.cell? ⟨w14.heap.size, 1, none⟩ = some (.slice Ph hi.2.length eh) ∧ W.cell? ⟨w2.heap.size, 0, none⟩ = some (.bool y.1) ∧ W.cell? ⟨w2.heap.size, 1, none⟩ = some (.slice Py y.2.length ey) ∧ Hid (Chg [] w4 W))
        ((refine KL.out _ ?_; (first | exact HC8.out | exact HC7.out | exact HC6.out | exact HC5.out | exact HCr.out | exact HC0.out | exact HC8.out.drew1 | exact HC7.out.drew1 | exact HC6.out.drew1 | exact HC5.out.drew1 | exact HCr.out.drew1 | exact HC0.out.drew1 | exact HC8.out.trans (Chg.of_below (below_al (Below.refl _ _) _)) | exact HC7.out.trans (Chg.of_below (below_al (Below.refl _ _) _)) | exact HC6.out.trans (Chg.of_below (below_al (Below.refl _ _) _)) | exact HC5.out.trans (Chg.of_below (below_al (Below.refl _ _) _)) | exact HCr.out.trans (Chg.of_below (below_al (Below.refl _ _) _)) | exact HC0.out.trans (Chg.of_below (below_al (Below.refl _ _) _)) | fail)))
        (first
          | (go_at_call 37; (have hBB := (‹_ ∧ _ ∧ _ ∧ _ ∧ _ ∧ _ ∧ _ ∧ _ ∧ Hid (Chg [] w4 _)›).2.2.2.2.2.2.2.2); (with_reducible refine (C1.out _ hBB.out).mono ?_); rintro e w5 ⟨rfl, b5⟩; have HC5 := Lib.hid (hBB.out.trans (Chg.of_below b5)); have HBZ5 := Lib.hid hBB.out.size; clear hBB)
          | (go_at_call 37; (have hBB := (‹_ ∧ _ ∧ _ ∧ _ ∧ _ ∧ _ ∧ _ ∧ _ ∧ Hid (Chg [] w4 _)›).2.2.2.2.2.2.2.2); (with_reducible refine (C2.out _ hBB.out).mono ?_); rintro e w6 ⟨rfl, b6⟩; have HC6 := Lib.hid (hBB.out.trans (Chg.of_below b6)); have HBZ6 := Lib.hid hBB.out.size; clear hBB)
          | (go_at_call 38; (have hBB := (‹_ ∧ _ ∧ _ ∧ _ ∧ _ ∧ _ ∧ _ ∧ _ ∧ Hid (Chg [] w4 _)›).2.2.2.2.2.2.2.2); (with_reducible refine (C3.out _ hBB.out).mono ?_); rintro e w7 ⟨un, Sn, rfl, on, ln, b7⟩; have HC7 := Lib.hid (hBB.out.trans (Chg.of_below b7)); obtain ⟨Pn, en, rfl⟩ := ownS_form on.here; have HBZ7 := Lib.hid hBB.out.size; clear hBB)
          | (go_at_call 37; (have hBB := (‹_ ∧ _ ∧ _ ∧ _ ∧ _ ∧ _ ∧ _ ∧ _ ∧ Hid (Chg [] w4 _)›).2.2.2.2.2.2.2.2); (with_reducible refine (C4.out _ _ hBB.out (At.here (by first | exact on | exact At.below on (below_al (Below.refl _ _) _) | exact At.below (At.below on (below_al (Below.refl _ _) _)) (below_al (Below.refl _ _) _) | exact At.move on (fun _ _ => rfl) (Nat.le_refl _)))).mono ?_); rintro e w8 ⟨rfl, b8⟩; have HC8 := Lib.hid (hBB.out.trans (Chg.of_below b8)); (have on_8 := At.below (by first | exact on | exact At.below on (below_al (Below.refl _ _) _) | exact At.below (At.below on (below_al (Below.refl _ _) _)) (below_al (Below.refl _ _) _) | exact At.move on (fun _ _ => rfl) (Nat.le_refl _)) b8); have HBZ8 := Lib.hid hBB.out.size; clear hBB))
      have bb8 := BBF.out _ HC8.out
      replace kr := kr.chg HC8.out (fun i hi hm => by simp at hm)
      replace ks := ks.chg HC8.out (fun i hi hm => by simp at hm)
      replace kl := kl.chg HC8.out (fun i hi hm => by simp at hm)
      replace kh := kh.chg HC8.out (fun i hi hm => by simp at hm)
      replace kz := kz.chg HC8.out (fun i hi hm => by simp at hm)
      replace kx := kx.chg HC8.out (fun i hi hm => by simp at hm)
      replace ky := ky.chg HC8.out (fun i hi hm => by simp at hm)
      have on := on_8
      replace o_r := o_r.chg HC8.out (fun i hi hm => by simp at hm)
      replace o_s := o_s.chg HC8.out (fun i hi hm => by simp at hm)
      replace o_l := o_l.chg HC8.out (fun i hi hm => by simp at hm)
      replace o_h := o_h.chg HC8.out (fun i hi hm => by simp at hm)
      go_wp2
      go_roundw
      case rel => exact ⟨k + 1, by omega, by go_num, kr, ks, kl, kh, kz, o_r, o_s, o_l, o_h, bb8⟩
      case measure => simp [intOf]; omega
    · obtain rfl : k = 7 := by omega
      have kr_c0 := kr.here.cell 0 _ rfl
      have kr_c1 := kr.here.cell 1 _ rfl
      have kr_c2 := kr.here.cell 2 _ rfl
      go_wp2_with fail
      clear kr_c0 kr_c1 kr_c2
      refine ((implRatRound_any _ r 6 _ hzr o_r.here (HS.out.below bbr)).mono fun _ _ h => postSb_eq2 HRev.out h).mono ?_
      rintro e w1 ⟨ue, Se, rfl, o_e, _, b1⟩
      obtain ⟨Pe, ee, rfl⟩ := ownS_form o_e.here
      have bb1 := Below.next bbr b1
      replace kr := kr.below b1
      replace ks := ks.below b1
      replace kl := kl.below b1
      replace kh := kh.below b1
      replace kz := kz.below b1
      replace o_r := o_r.below b1
      replace o_s := o_s.below b1
      replace o_l := o_l.below b1
      replace o_h := o_h.below b1
      have ke := box_new (w1) #[.bool ev.1, .slice Pe ev.2.length ee] 28
      have ale := below_al (Below.refl (w1).heap.size (w1)) (.cells #[.bool ev.1, .slice Pe ev.2.length ee] 28)
      have bbe := Below.next bb1 ale
      replace kr := kr.below ale
      replace ks := ks.below ale
      replace kl := kl.below ale
      replace kh := kh.below ale
      replace kz := kz.below ale
      replace o_r := o_r.below ale
      replace o_s := o_s.below ale
      replace o_l := o_l.below ale
      replace o_h := o_h.below ale
      replace o_e := o_e.below ale
      obtain ⟨hf, hhf⟩ : ∃ b, halfB r = b := ⟨_, rfl⟩
      have HHF := Lib.hid hhf
      rw [hhf] at HHALF
      clear hhf
      have kr_c0 := kr.here.cell 0 _ rfl
      have kr_c1 := kr.here.cell 1 _ rfl
      have kr_c2 := kr.here.cell 2 _ rfl
      go_wp2_with fail
      clear kr_c0 kr_c1 kr_c2
      refine ((implRatHalf_any _ r _ hzr o_r.here (HS.out.below bbe)).mono fun _ _ h => (show Postb hf _ _ _ by rw [← HHF.out]; exact h)).mono ?_
      rintro e w2 ⟨rfl, b2⟩
      have bb2 := Below.next bbe b2
      replace kr := kr.below b2
      replace ks := ks.below b2
      replace kl := kl.below b2
      replace kh := kh.below b2
      replace kz := kz.below b2
      replace o_r := o_r.below b2
      replace o_s := o_s.below b2
      replace o_l := o_l.below b2
      replace o_h := o_h.below b2
      replace o_e := o_e.below b2
      replace ke := ke.below b2
      cases hf with
      | false =>
        clear kr ks kl kh kz ke
        go_wp2
        go_ret
        exact ⟨rfl, bb2⟩
      | true =>
        have HEE := Lib.hid (HHALF.out rfl)
        have ke_c0 := ke.here.cell 0 _ rfl
        have ke_c1 := ke.here.cell 1 _ rfl
        go_wp2_with fail
        clear ke_c0 ke_c1
        refine (specNatEven_any _ ev.2 0 _ _ (by unfold szS szI at hzev; omega) (OwnI.row (ownS_open o_e.here))).mono ?_
        rintro e w_ ⟨rfl, rfl⟩
        rw [HEE.out]
        clear kr ks kl kh kz ke
        go_wp2
        go_ret
        exact ⟨rfl, bb2⟩
theorem lawModes (v : Value) (bs : List Nat) (w : World) (hb : ∀ b ∈ bs, b < 256) (hm : bs.length ≤ 9223372036854775807) (hr : Row w 0 w.heap.size v (bytesV bs)) (hs : Sen w) :
    Calls Tryd.prog 8 #[v] w fun e w' => e = .returned (.bool true) ∧ Below w.heap.size w w' := by
  by_cases hn : bs.length ≤ 1048576
  · exact lawModes_small v bs w hb hn hr hs
  · obtain ⟨A0, c0, rfl, _⟩ := hr
    have hlen : (bytesV bs).length = bs.length := by simp [bytesV]
    rw [hlen]
    go_enter Tryd.func8, Tryd.ntmps8
    go_wp2
    go_ret
    exact ⟨rfl, Below.refl _ _⟩
end Go.Proofs.YthfkdofnoomhaaaDoor

namespace Go.Proofs.YthfkdofnoomhaaaDoor
open Go.RowKit

def DrawnNum (m : Int) (w : World) (e : Ending) (w' : World) : Prop := ∃ x : Int, 0 ≤ x ∧ x < m ∧ e = .returned (.int .i64 x) ∧ Below w.heap.size w w'
set_option maxHeartbeats 1000000 in
set_option maxRecDepth 100000 in
theorem makeNumB_any (m : Int) (v : Value) (bs : List Nat) (w : World) (hm : 0 < m) (hm2 : m ≤ 2147483648) (hb : ∀ b ∈ bs, b < 256) (hn : bs.length ≤ 1048576) (hr : Row w 0 w.heap.size v (bytesV bs)) :
    Calls Tryd.prog 42 #[v, .int .i64 m] w (DrawnNum m w) := by
  have HB := Lib.hid hb
  clear hb
  go_enter Tryd.func42, Tryd.ntmps42
  go_wp2_with fail
  refine (l01New_any 0 w.heap.size v bs _ HB.out hn hr).mono ?_
  rintro e w1 ⟨g, hg, rfl, ⟨i, h, hi0, hi1, hh0, hh1, hbl⟩, b1⟩
  have c2 : w1.cell? ⟨g, 2, none⟩ = some (.int .i64 h) := cell_in hbl 2 _ rfl
  have f2 := free_in hbl 2
  have hr1 := hr.below b1 (Nat.le_refl _)
  have hcur : Cur (w1.setCell ⟨g, 2, none⟩ (.int .i64 (wrap64 (h + 777)))) g v bs.length := ⟨i, wrap64 (h + 777), hi0, hi1, by unfold wrap64; omega, by unfold wrap64; omega, put_in hbl 2 _⟩
  have hgr := put_grown w1 g 2 (.int .i64 (wrap64 (h + 777)))
  have hr2 := hr1.far hgr hg
  have HC := Lib.hid hcur
  have HG := Lib.hid hgr
  have HR := Lib.hid hr2
  clear hcur hgr hr2 hbl
  go_wp2_with fail
  refine (l01Below_any m g 0 w.heap.size v bs _ hm hm2 HB.out hn HC.out HR.out hg).mono ?_
  rintro e w2 ⟨x, hx0, hx1, rfl, _, hg2⟩
  go_wp2
  go_ret
  exact ⟨x, hx0, hx1, rfl, b1.grown (grown_trans HG.out hg2) b1.size (fun k hk => by cases hk; exact hg)⟩
set_option maxHeartbeats 1000000 in
set_option maxRecDepth 100000 in
theorem makeMode_any (v : Value) (bs : List Nat) (w : World) (hb : ∀ b ∈ bs, b < 256) (hn : bs.length ≤ 1048576) (hr : Row w 0 w.heap.size v (bytesV bs)) :
    Calls Tryd.prog 43 #[v] w (DrawnNum 7 w) := by
  have HB := Lib.hid hb
  clear hb
  go_enter Tryd.func43, Tryd.ntmps43
  go_wp2_with fail
  refine (l01New_any 0 w.heap.size v bs _ HB.out hn hr).mono ?_
  rintro e w1 ⟨g, hg, rfl, ⟨i, h, hi0, hi1, hh0, hh1, hbl⟩, b1⟩
  have c2 : w1.cell? ⟨g, 2, none⟩ = some (.int .i64 h) := cell_in hbl 2 _ rfl
  have f2 := free_in hbl 2
  have hr1 := hr.below b1 (Nat.le_refl _)
  have hcur : Cur (w1.setCell ⟨g, 2, none⟩ (.int .i64 (wrap64 (h + 13)))) g v bs.length := ⟨i, wrap64 (h + 13), hi0, hi1, by unfold wrap64; omega, by unfold wrap64; omega, put_in hbl 2 _⟩
  have hgr := put_grown w1 g 2 (.int .i64 (wrap64 (h + 13)))
  have hr2 := hr1.far hgr hg
  have HC := Lib.hid hcur
  have HG := Lib.hid hgr
  have HR := Lib.hid hr2
  clear hcur hgr hr2 hbl
  go_wp2_with fail
  refine (l01Below_any 7 g 0 w.heap.size v bs _ (by omega) (by omega) HB.out hn HC.out HR.out hg).mono ?_
  rintro e w2 ⟨x, hx0, hx1, rfl, _, hg2⟩
  go_wp2
  go_ret
  exact ⟨x, hx0, hx1, rfl, b1.grown (grown_trans HG.out hg2) b1.size (fun k hk => by cases hk; exact hg)⟩
/-- a drawn signed number, new -/
def IntPost (w : World) (e : Ending) (w' : World) : Prop := ∃ (u : Value) (x : SI) (S : List Nat), e = .returned u ∧ okS x = true ∧ x.2.length ≤ 3 ∧ At S (OwnS u x) w' ∧ Below w.heap.size w w'
set_option maxHeartbeats 1000000 in
set_option maxRecDepth 100000 in
theorem makeInt_any (v : Value) (bs : List Nat) (w : World) (hb : ∀ b ∈ bs, b < 256) (hn : bs.length ≤ 1048576) (hr : Row w 0 w.heap.size v (bytesV bs)) :
    Calls Tryd.prog 41 #[v] w (IntPost w) := by
  have HB := Lib.hid hb
  clear hb
  have bb0 : Below w.heap.size w (w.alloc (.cells #[.bool false, .slice none 0 0] 28)) := below_al (Below.refl _ _) _
  have ko := box_new w #[.bool false, .slice none 0 0] 28
  obtain ⟨W0, hW0⟩ : ∃ W0, W0 = w.alloc (.cells #[.bool false, .slice none 0 0] 28) := ⟨_, rfl⟩
  rw [← hW0] at bb0 ko
  have HW := Lib.hid hW0
  have hr0 := hr.below bb0 (Nat.le_refl _)
  have hz0 := ko.lt w.heap.size (by simp)
  clear hW0 hr
  go_enter Tryd.func41, Tryd.ntmps41
  go_wp2_with fail
  rw [← HW.out]
  refine (l01New_any 0 w.heap.size v bs _ HB.out hn hr0).mono ?_
  rintro e w1 ⟨g, hg, rfl, hc1, b1⟩
  have hgl := hc1.lt
  obtain ⟨i, h, hi0, hi1, hh0, hh1, hbl⟩ := hc1
  have hr1 := hr0.below b1 (by omega)
  have c2 : w1.cell? ⟨g, 2, none⟩ = some (.int .i64 h) := cell_in hbl 2 _ rfl
  have f2 := free_in hbl 2
  have hcur : Cur (w1.setCell ⟨g, 2, none⟩ (.int .i64 (wrap64 (h + 5)))) g v bs.length := ⟨i, wrap64 (h + 5), hi0, hi1, by unfold wrap64; omega, by unfold wrap64; omega, put_in hbl 2 _⟩
  have hgr := put_grown w1 g 2 (.int .i64 (wrap64 (h + 5)))
  have hk1 := Chg.of_cur hgr
  have hr2 := hr1.far hgr (by omega)
  have bb1 := below_chg (Below.next bb0 b1) hk1 (Below.next bb0 b1).size (fun i hi => by simp at hi; omega)
  replace ko := (ko.below b1).chg hk1 (fun i hi hm => by simp at hi hm; omega)
  have hz1 := hk1.size
  have HC := Lib.hid hcur
  have HR := Lib.hid hr2
  clear hcur hgr hr2 hbl hk1 hr1 hr0 bb0
  go_wp2_with fail
  refine (l04Draw_any3 g 0 w.heap.size v bs _ HB.out hn HC.out HR.out (by omega)).mono ?_
  rintro e w2 ⟨u, x, rfl, okx, hlx, ox, _, hk2⟩
  obtain ⟨Af, cf, rfl⟩ := own_len ox
  replace ko := ko.chg hk2 (fun i hi hm => by simp at hi hm; omega)
  have bb2 := below_chg bb1 hk2 bb1.size (fun i hi => by simp at hi; omega)
  have of := (own_at' ox).imp (fun _ h => (OwnS.mk h : OwnS (.agg #[.bool x.1, .slice Af x.2.length cf]) x _))
  have lf := own_within ox
  have hc3 : Chg [w.heap.size] w2 ((w2.setCell ⟨w.heap.size, 0, none⟩ (.bool x.1)).setCell ⟨w.heap.size, 1, none⟩ (.slice Af x.2.length cf)) := chg_set2
  have HW2 := Lib.hid (show IntPost w (.returned (.agg #[.bool x.1, .slice Af x.2.length cf])) _ from ⟨_, x, _, rfl, okx, hlx, of.chg hc3 (fun i hi hm => by have := lf i hi; simp at hm; omega), below_set2 bb2 (Nat.le_refl _)⟩)
  have cz0 := ko.here.cell 0 _ rfl
  have fz0 := Lib.frozen_of_heap ko.here 0
  have cz1 := ko.here.cell 1 _ rfl
  have fz1 := Lib.frozen_of_heap ko.here 1
  clear of lf ko bb1 bb2 hc3 ox okx hlx hk2
  go_wp2
  refine bodyPost_ret (v := .agg #[.bool _, .slice Af _ cf]) (by simp [results, Tryd.results41, go_sem, cz0, cz1]; exact ⟨rfl, rfl⟩) rfl ?_
  exact HW2.out
end Go.Proofs.YthfkdofnoomhaaaDoor

namespace Go.Proofs.YthfkdofnoomhaaaDoor
open Go.RowKit

theorem round_lt18 {r : QI} (h : okQ r = true) (m : Int) : (roundN r.1.1 (topN r) (denQ r) m : Int) < bp 18 := by
  have p := parts_of h
  have hn := p.nlt
  have hd := denQ_pos h
  have c := roundN_cases r.1.1 (topN r) (denQ r) m
  have b1 : bp 1 = 1000000000 := rfl
  have b18 : bp 1 ≤ bp 18 := bp_mono (by omega)
  by_cases h1 : denQ r = 1
  · rw [h1] at c ⊢
    rw [Nat.mod_one, Nat.div_one] at c
    omega
  · have h2 : topN r / denQ r ≤ topN r / 2 := Nat.div_le_div_left (by omega) (by omega)
    have h3 := roundN_le r.1.1 (topN r) (denQ r) m
    omega
/-- the rounded number as a fraction, and the rest -/
theorem rest_parts {r : QI} (h : okQ r = true) (m : Int) : (makeQ (roundS r m) (ofZ 1)).2 = true ∧ (subQ r (makeQ (roundS r m) (ofZ 1)).1).2 = true := by
  have p := parts_of h
  have okx := roundS_ok r m
  have h18 := round_lt18 h m
  have hv := roundS_val p m
  have hab : ((valS (roundS r m)).natAbs : Int) < bp 18 := by
    have : (valS (roundS r m)).natAbs = roundN r.1.1 (topN r) (denQ r) m := by rw [hv]; split <;> omega
    omega
  obtain ⟨b1, b2, b3⟩ := int_bd okx (m := 18) (by omega) (by omega) hab
  refine ⟨b1, ?_⟩
  obtain ⟨e, e1, e2, e3, _, _⟩ := round_val h m
  generalize roundS r m = X at *
  generalize (makeQ X (ofZ 1)).1 = Y at *
  have py := b2.pos
  have pr : (0 : Int) < denQ r := by have := denQ_pos h; omega
  have hY : numQ Y = valS X * denQ Y := by
    have n1 := rat_ne py
    unfold ratV at b3
    have : (numQ Y : Rat) = ((valS X : Int) : Rat) * ((denQ Y : Int) : Rat) := by grind
    exact_mod_cast this
  obtain ⟨n1, n2, n3⟩ := neg_bd b2
  have en := negQ_is b2.ok
  have hN : numQ (negQ Y).1 = - numQ Y := by rw [en]; exact negS_val (okQ_parts b2.ok).1
  have hD : denQ (negQ Y).1 = denQ Y := by rw [en]; rfl
  have h1 : denQ Y = 1 := by
    have hg : Nat.gcd (topN Y) (denQ Y) = 1 := (okQ_parts b2.ok).2.2.2.2.2
    have ht : topN Y = (valS X).natAbs * denQ Y := by rw [abs_top b2.ok, hY, Int.natAbs_mul, Int.natAbs_natCast]
    rw [ht, Nat.gcd_mul_left_left] at hg
    exact hg
  have es : subQ r Y = lowQ (decide (numQ r * denQ (negQ Y).1 + numQ (negQ Y).1 * denQ r < 0)) (numQ r * denQ (negQ Y).1 + numQ (negQ Y).1 * denQ r).natAbs (denQ r * denQ (negQ Y).1) := by
    unfold subQ
    rw [if_pos n1]
    unfold addQ
    rw [if_pos ⟨h, n2.ok⟩]
  rw [es, hN, hD, hY, h1]
  have hnum : (numQ r * ((1 : Nat) : Int) + -(valS X * ((1 : Nat) : Int)) * denQ r).natAbs < denQ r := by
    have : numQ r * ((1 : Nat) : Int) + -(valS X * ((1 : Nat) : Int)) * denQ r = -e := by
      have : -(valS X * ((1 : Nat) : Int)) * (denQ r : Int) = -(valS X * (denQ r : Int)) := by rw [Int.natCast_one, Int.mul_one, Int.neg_mul]
      rw [this, e1]
      omega
    rw [this]
    omega
  exact (low_is _ _ _ (by omega) (by have := p.dlt; omega) (by rw [Nat.mul_one]; exact p.dlt)).1
theorem rest_all {r : QI} {m : Int} (h : okQ r = true) (hm : modeB m = true) : roundR r m = (roundS r m, true) ∧ restB r m = true ∧ restS r m = roundS r m ∧ restQ r m = (subQ r (makeQ (roundS r m) (ofZ 1)).1).1 := by
  have e : roundR r m = (roundS r m, true) := by unfold roundR; rw [if_pos ⟨h, hm⟩]
  have b := rest_parts h m
  have eb : restB r m = true := by unfold restB; rw [e]; simp only; rw [b.1, b.2]; rfl
  refine ⟨e, eb, ?_, ?_⟩
  · unfold restS; rw [if_pos eb, e]
  · unfold restQ; rw [if_pos eb, e]
theorem rest_none {r : QI} {m : Int} (h : ¬ (okQ r = true ∧ modeB m = true)) : roundR r m = (zeroS, false) ∧ restB r m = false ∧ restS r m = zeroS ∧ restQ r m = zeroQ := by
  have e : roundR r m = (zeroS, false) := by unfold roundR; rw [if_neg h]
  have eb : restB r m = false := by unfold restB; rw [e]; rfl
  refine ⟨e, eb, ?_, ?_⟩
  · unfold restS; rw [if_neg (by rw [eb]; decide)]
  · unfold restQ; rw [if_neg (by rw [eb]; decide)]
theorem makeQ_szQ (x y : SI) : szQ (makeQ x y).1 ≤ 1048576 := by unfold makeQ; split; exact lowQ_sz _ _ _; decide
theorem subQ_szQ (x y : QI) : szQ (subQ x y).1 ≤ 1048576 := by unfold subQ; split; (unfold addQ; split; exact lowQ_sz _ _ _; decide); decide
theorem postSb_is {q : SI × Bool} {X : SI} {b : Bool} (e : q = (X, b)) {w w' : World} {n : Ending} (h : PostSb q.1 q.2 w n w') : PostSb X b w n w' := by rw [e] at h; exact h
theorem postQb_is {q : QI × Bool} {X : QI} {b : Bool} (e : q = (X, b)) {w w' : World} {n : Ending} (h : PostQb q.1 q.2 w n w') : PostQb X b w n w' := by rw [e] at h; exact h
theorem newSQb_zero {w W : World} (hW : Below w.heap.size w W) : PostSQb zeroS zeroQ false w (.returned (.tuple #[.agg #[.bool false, .slice none 0 0], .agg #[.bool false, .slice none 0 0, .slice none 0 0], .bool false])) W :=
  ⟨_, _, [], [], rfl, ⟨ownS_zero _, fun _ hg => absurd hg List.not_mem_nil, fun w' _ => ownS_zero w'⟩, ⟨ownQ_zero _, fun _ hg => absurd hg List.not_mem_nil, fun w' _ => ownQ_zero w'⟩, fun _ hg => absurd hg List.not_mem_nil, fun _ hg => absurd hg List.not_mem_nil, fun _ hg => absurd hg List.not_mem_nil, hW⟩
/-- a signed number in block r and a fraction in block p, in whatever order they were stored -/
theorem newSQb_at {r p B C : Nat} {S T : List Nat} {c0 c1 d0 d1 d2 : Value} {x : SI} {y : QI} {b : Bool} {w W : World} (o : At S (OwnS (.agg #[c0, c1]) x) W) (q : At T (OwnQ (.agg #[d0, d1, d2]) y) W)
    (l : Within S B W.heap.size) (k : Within T C W.heap.size) (hap : ∀ g ∈ S, g ∉ T) (hB : p < B) (hC : p < C) (hrp : r < p) (hr : w.heap.size ≤ r) (hp : w.heap.size ≤ p) (hW : Below w.heap.size w W) :
    ∀ W', Chg [r, p] W W' → PostSQb x y b w (.returned (.tuple #[.agg #[c0, c1], .agg #[d0, d1, d2], .bool b])) W' := by
  intro W' hc
  have hz := hc.size
  refine ⟨_, _, S, T, rfl, o.chg hc (fun i hi hm => ?_), q.chg hc (fun i hi hm => ?_), hap, fun i hi => ?_, fun i hi => ?_, below_chg hW hc hW.size (fun i hi => ?_)⟩
  · have := l i hi; simp at hm; omega
  · have := k i hi; simp at hm; omega
  · have := l i hi; omega
  · have := k i hi; omega
  · simp at hi; omega
end Go.Proofs.YthfkdofnoomhaaaDoor

namespace Go.Proofs.YthfkdofnoomhaaaDoor
open Go.RowKit

theorem okQ_zero : okQ zeroQ = false := rfl
theorem mul_zeroS (n : Int) : mulS zeroS (ofZ n) = zeroS := by
  unfold mulS
  rw [if_pos ⟨zeroS_ok, ofZ_ok n⟩, zeroS_val, Int.zero_mul, ofZ_zero]
theorem mag_lt {x : SI} {k : Nat} (ok : okS x = true) (hl : x.2.length ≤ k) : ((valS x).natAbs : Int) < bp k := by
  have hp := okS_parts ok
  have ha := valS_abs x hp.1
  have h3 := nval_lt x.2 (natOk_parts hp.1).1
  have h4 := nval_ok hp.1
  have h5 : bp x.2.length ≤ bp k := bp_mono hl
  omega
/-- the quotient is a fraction where the number is right and short -/
theorem quot_ok {x : SI} {n : Int} (ok : okS x = true) (hl : x.2.length ≤ 18) (h1 : 1 ≤ n) (h2 : n ≤ 1000000) : (makeQ x (ofZ n)).2 = true ∧ okQ (makeQ x (ofZ n)).1 = true := by
  obtain ⟨q1, q2, _⟩ := quot_is ok (k := 18) (by omega) (by omega) (mag_lt ok hl) h1 h2
  exact ⟨q1, q2.ok⟩
theorem step_yes {x : SI} {n m : Int} (ok : okS x = true) (hl : x.2.length ≤ 18) (h1 : 1 ≤ n) (h2 : n ≤ 1000000) (hm : modeB m = true) : stepB x n m = true ∧ stepS x n m = mulS (roundS (makeQ x (ofZ n)).1 m) (ofZ n) := by
  have e : stepB x n m = true := by unfold stepB; rw [ok, decide_eq_true hl, decide_eq_true (show 1 ≤ n ∧ n ≤ 1000000 from ⟨h1, h2⟩), hm]; rfl
  exact ⟨e, by unfold stepS; rw [if_pos e]⟩
theorem step_no {x : SI} {n m : Int} (h : ¬ (okS x = true ∧ x.2.length ≤ 18 ∧ (1 ≤ n ∧ n ≤ 1000000) ∧ modeB m = true)) : stepB x n m = false ∧ stepS x n m = zeroS := by
  have e : stepB x n m = false := by
    rcases Bool.eq_false_or_eq_true (stepB x n m) with e | e
    · refine absurd ?_ h
      unfold stepB at e
      rw [Bool.and_eq_true, Bool.and_eq_true, Bool.and_eq_true, decide_eq_true_eq, decide_eq_true_eq] at e
      exact ⟨e.1.1.1, e.1.1.2, e.1.2, e.2⟩
    · exact e
  exact ⟨e, by unfold stepS; rw [if_neg (by rw [e]; decide)]⟩
/-- impl's way: the quotient is rounded whatever it is -/
theorem step_impl {x : SI} {n m : Int} (hl : x.2.length ≤ 18) (h1 : 1 ≤ n) (h2 : n ≤ 1000000) : (roundR (makeQ x (ofZ n)).1 m).2 = stepB x n m ∧ mulS (roundR (makeQ x (ofZ n)).1 m).1 (ofZ n) = stepS x n m := by
  by_cases ok : okS x = true
  · have q := quot_ok ok hl h1 h2
    by_cases hm : modeB m = true
    · have s := step_yes ok hl h1 h2 hm
      rw [s.1, s.2]
      unfold roundR
      rw [if_pos ⟨q.2, hm⟩]
      exact ⟨rfl, rfl⟩
    · have s := step_no (x := x) (n := n) (m := m) (fun h => hm h.2.2.2)
      rw [s.1, s.2]
      unfold roundR
      rw [if_neg (fun h => hm h.2)]
      exact ⟨rfl, mul_zeroS n⟩
  · have s := step_no (x := x) (n := n) (m := m) (fun h => ok h.1)
    have e : makeQ x (ofZ n) = (zeroQ, false) := by unfold makeQ; rw [if_neg (fun h => ok h.1)]
    rw [s.1, s.2, e]
    unfold roundR
    rw [if_neg (fun h => by rw [okQ_zero] at h; exact absurd h.1 (by decide))]
    exact ⟨rfl, mul_zeroS n⟩
theorem mulS_sz (x y : SI) : szS (mulS x y) ≤ 1048576 := szS_50 (mulS_ok x y)
theorem stepS_sz (x : SI) (n m : Int) : szS (stepS x n m) ≤ 1048576 := by unfold stepS; split; exact mulS_sz _ _; decide
theorem newS_isT {x y : SI} (e : x = y) {w w' : World} {n : Ending} (h : NewS x w n w') : NewV (fun u => OwnS u y) w n w' := by subst e; exact h.newV
end Go.Proofs.YthfkdofnoomhaaaDoor

namespace Go.Proofs.YthfkdofnoomhaaaDoor
open Go.RowKit

set_option maxHeartbeats 4000000 in
set_option maxRecDepth 100000 in
theorem implRoundTo_any (vx : Value) (x : SI) (n m : Int) (w : World) (hz : szS x ≤ 1048576) (hx : OwnS vx x w) (hsen : Sen w) :
    Calls Tryd.prog 44 #[vx, .int .i64 n, .int .i64 m] w (PostSb (stepS x n m) (stepB x n m) w) := by
  have HS := Lib.hid hsen
  clear hsen
  have Hx := Lib.hid hx
  obtain ⟨Ax, cx, rfl⟩ := ownS_form hx
  have OSx := Lib.hid (show ∀ W, Below w.heap.size w W → OwnS (.agg #[.bool x.1, .slice Ax x.2.length cx]) x W from fun W hb => OwnS.below Hx.out hb)
  have OIx := Lib.hid (show ∀ W, Below w.heap.size w W → OwnI (.slice Ax x.2.length cx) x.2 W from fun W hb => ownS_open (OSx.out W hb))
  clear hx
  have hlx : x.2.length ≤ 1048576 := by unfold szS szI at hz; omega
  have bb0 : Below w.heap.size w ((w.alloc (.cells #[.bool x.1, .slice Ax x.2.length cx] 28)).alloc (.cells #[.bool false, .slice none 0 0] 28)) := below_al (below_al (Below.refl _ _) _) _
  have kx := (box_new w #[.bool x.1, .slice Ax x.2.length cx] 28).below (below_al (Below.refl _ _) (.cells #[.bool false, .slice none 0 0] 28))
  have ko := (box_new (w.alloc (.cells #[.bool x.1, .slice Ax x.2.length cx] 28)) #[.bool false, .slice none 0 0] 28)
  rw [show (w.alloc (.cells #[.bool x.1, .slice Ax x.2.length cx] 28)).heap.size = w.heap.size + 1 by simp] at ko
  have HKO := Lib.hid (ko.lt (w.heap.size + 1) (by simp))
  by_cases hl : x.2.length ≤ 18
  · have hl18 : ¬ ((18 : Int) < (x.2.length : Int)) := by omega
    by_cases h1 : 1 ≤ n
    · have h1n : ¬ n < 1 := by omega
      by_cases h2 : n ≤ 1000000
      · have h2n : ¬ 1000000 < n := by omega
        have hsi := step_impl (x := x) (n := n) (m := m) hl h1 h2
        clear hl
        obtain ⟨⟨Y, by_⟩, hQ⟩ : ∃ q, makeQ x (ofZ n) = q := ⟨_, rfl⟩
        have EQ := Lib.hid hQ
        have zY : szQ Y ≤ 1048576 := by have := makeQ_szQ x (ofZ n); rw [hQ] at this; exact this
        rw [hQ] at hsi
        clear hQ
        obtain ⟨⟨X, bx⟩, hX⟩ : ∃ q, roundR Y m = q := ⟨_, rfl⟩
        have EX := Lib.hid hX
        have zX : X.2.length ≤ 1048576 := by have := roundR_sz Y m; rw [hX] at this; unfold szS szI at this; simp only at this; omega
        rw [show roundR (Y, by_).1 m = (X, bx) from hX] at hsi
        have HV := Lib.hid (show stepS x n m = mulS X (ofZ n) ∧ stepB x n m = bx from ⟨hsi.2.symm, hsi.1.symm⟩)
        clear hX hsi
        obtain ⟨W0, hW0⟩ : ∃ W0, W0 = ((w.alloc (.cells #[.bool x.1, .slice Ax x.2.length cx] 28)).alloc (.cells #[.bool false, .slice none 0 0] 28)) := ⟨_, rfl⟩
        rw [← hW0] at bb0 kx ko HKO
        have HW0 := Lib.hid hW0
        clear hW0
        have kx_c0 := kx.here.cell 0 _ rfl
        have kx_c1 := kx.here.cell 1 _ rfl
        rw [HW0.out] at kx_c0 kx_c1
        go_enter Tryd.func44, Tryd.ntmps44
        go_upto_region 3 with fail
        rw [← HW0.out]
        go_cut [8, 9] (fun s1 s2 wx => NewLocV 30 (fun v => OwnQ v Y) W0 s1 wx ∧ s2 = .bool by_)
        case first =>
          have HC0 := Lib.hid (show Chg [] W0 W0.drew from (Chg.refl _ _).drew1)
          have HCr := Lib.hid (show Chg [] W0 W0 from Chg.refl _ _)
          have KL := Lib.hid (show ∀ W, Chg [] W0 W → W.cell? ⟨w.heap.size, 0, none⟩ = some (.bool x.1) ∧ W.cell? ⟨w.heap.size, 1, none⟩ = some (.slice Ax x.2.length cx) ∧ Hid (Chg [] W0 W) from fun W hc => ⟨(kx.chg hc (fun i hi hm => by simp at hm)).here.cell 0 _ rfl, (kx.chg hc (fun i hi hm => by simp at hm)).here.cell 1 _ rfl, Lib.hid hc⟩)
          have BBF := Lib.hid (show ∀ W, Chg [] W0 W → Below w.heap.size w W from fun W hc => below_chg bb0 hc bb0.size (fun i hi => by simp at hi))
          clear kx_c0 kx_c1
          go_region_held3 (fun W => W.cell? ⟨w.heap.size, 0, none⟩ = some (.bool x.1) ∧ W.cell? ⟨w.heap.size, 1, none⟩ = some (.slice Ax x.2.length cx) ∧ Hid (Chg [] W0 W))
            ((refine KL.out _ ?_; (first | exact HC2.out | exact HC1.out | exact HCr.out | exact HC0.out | exact HC2.out.drew1 | exact HC1.out.drew1 | exact HCr.out.drew1 | exact HC0.out.drew1 | exact HC2.out.trans (Chg.of_below (below_al (Below.refl _ _) _)) | exact HC1.out.trans (Chg.of_below (below_al (Below.refl _ _) _)) | exact HCr.out.trans (Chg.of_below (below_al (Below.refl _ _) _)) | exact HC0.out.trans (Chg.of_below (below_al (Below.refl _ _) _)) | exact (Chg.setNew HC2.out (by first | exact HC2.out.size | exact HC1.out.size | exact HCr.out.size | exact HC0.out.size) _) | exact (Chg.setNew (Chg.setNew HC2.out (by first | exact HC2.out.size | exact HC1.out.size | exact HCr.out.size | exact HC0.out.size) _) (by first | exact HC2.out.size | exact HC1.out.size | exact HCr.out.size | exact HC0.out.size) _) | exact (Chg.setNew (Chg.setNew (Chg.setNew HC2.out (by first | exact HC2.out.size | exact HC1.out.size | exact HCr.out.size | exact HC0.out.size) _) (by first | exact HC2.out.size | exact HC1.out.size | exact HCr.out.size | exact HC0.out.size) _) (by first | exact HC2.out.size | exact HC1.out.size | exact HCr.out.size | exact HC0.out.size) _) | fail)))
            (first
              | (go_at_call 49; (have hBB := (‹_ ∧ _ ∧ Hid (Chg [] W0 _)›).2.2); (with_reducible refine ((implIntOf_any n _ (by omega) (by omega)).mono fun _ _ h => NewS.newV h).mono ?_); rintro e w1 ⟨ui, Si, rfl, oi, li, b1⟩; have HC1 := Lib.hid (hBB.out.trans (Chg.of_below b1)); obtain ⟨Ai, ci, rfl⟩ := ownS_form oi.here; (first | (have early1 : At [W0.heap.size] (BoxAt W0.heap.size #[.bool false, .slice none 0 0, .slice none 0 0] 30) w1 := At.below (box_new W0.drew _ _) b1) | (have early1 := At.below (box_new _ #[.bool false, .slice none 0 0, .slice none 0 0] 30) b1) | (have early1 := At.below early0 b1) | skip); have HBZ1 := Lib.hid hBB.out.size; clear hBB)
              | (go_at_call 56; (have hBB := (‹_ ∧ _ ∧ Hid (Chg [] W0 _)›).2.2); (with_reducible refine ((implRatMake_any _ _ x (ofZ n) _ hz (szS_50 (ofZ_ok n)) (OSx.out _ (BBF.out _ hBB.out)) (At.here (by first | exact oi | exact At.below oi (below_al (Below.refl _ _) _) | exact At.below (At.below oi (below_al (Below.refl _ _) _)) (below_al (Below.refl _ _) _) | exact At.move oi (fun _ _ => rfl) (Nat.le_refl _))) (HS.out.below (BBF.out _ hBB.out))).mono fun _ _ h => postQb_is EQ.out h).mono ?_); rintro e w2 ⟨uf, Sf, rfl, of, lf, b2⟩; have HC2 := Lib.hid (hBB.out.trans (Chg.of_below b2)); (have oi_2 := At.below (by first | exact oi | exact At.below oi (below_al (Below.refl _ _) _) | exact At.below (At.below oi (below_al (Below.refl _ _) _)) (below_al (Below.refl _ _) _) | exact At.move oi (fun _ _ => rfl) (Nat.le_refl _)) b2); obtain ⟨Af, cf, Bf, df, rfl⟩ := ownQ_form of.here; (first | have hbxg := At.below_lt (box_new _ #[.bool false, .slice none 0 0, .slice none 0 0] 30) b2 | have hbxg := At.below_lt early1 b2 | skip); (try (have hbxf := hbxg.1; have HGB := Lib.hid hbxg.2; clear hbxg)); (try (have cz0 := hbxf.here.cell 0 _ rfl; have fz0 := Lib.frozen_of_heap hbxf.here 0; have cz1 := hbxf.here.cell 1 _ rfl; have fz1 := Lib.frozen_of_heap hbxf.here 1; have cz2 := hbxf.here.cell 2 _ rfl; have fz2 := Lib.frozen_of_heap hbxf.here 2)); have HBZ2 := Lib.hid hBB.out.size; clear hBB))
          all_goals (go_wp2_with fail; go_meet; first | exact ⟨newLocV_last of lf HBZ2.out (below_of_chg HC2.out), rfl⟩ | exact ⟨newLocV_early3 hbxf.here of lf (by first | exact HC1.out.size | exact HCr.out.size | exact HC0.out.size) HGB.out (below_of_chg HC2.out), rfl⟩)
        rename World => w1
        clear kx_c0 kx_c1
        obtain ⟨⟨gy, csy, Sy, rfl, ky, oy, ny, ly, b1⟩, rfl⟩ := hcut
        obtain ⟨Ay, cy, By, dy, ey⟩ := ownQ_form oy.here
        injection ey with ey
        subst ey
        have bb1 := Below.next bb0 b1
        replace kx := kx.below b1
        replace ko := ko.below b1
        have ky_c0 := ky.here.cell 0 _ rfl
        have ky_c1 := ky.here.cell 1 _ rfl
        have ky_c2 := ky.here.cell 2 _ rfl
        go_wp2_with fail
        clear ky_c0 ky_c1 ky_c2
        refine ((implRatRound_any _ Y m _ zY oy.here (HS.out.below bb1)).mono fun _ _ h => postSb_is EX.out h).mono ?_
        rintro e w2 ⟨ut, St, rfl, ot, lt, b2⟩
        obtain ⟨At_, ct, rfl⟩ := ownS_form ot.here
        have bb2 := Below.next bb1 b2
        replace kx := kx.below b2
        replace ko := ko.below b2
        replace ky := ky.below b2
        replace oy := oy.below b2
        have kt := box_new (w2) #[.bool X.1, .slice At_ X.2.length ct] 28
        have alt := below_al (Below.refl (w2).heap.size (w2)) (.cells #[.bool X.1, .slice At_ X.2.length ct] 28)
        have bbt := Below.next bb2 alt
        replace kx := kx.below alt
        replace ko := ko.below alt
        replace ky := ky.below alt
        replace oy := oy.below alt
        replace ot := ot.below alt
        clear ky oy kx
        obtain ⟨Wt, hWt⟩ : ∃ Wt, Wt = w2.alloc (.cells #[.bool X.1, .slice At_ X.2.length ct] 28) := ⟨_, rfl⟩
        rw [← hWt] at ot ko kt bbt alt
        have HWT := Lib.hid hWt
        clear hWt
        have cT0 := kt.here.cell 0 _ rfl
        have cT1 := kt.here.cell 1 _ rfl
        rw [HWT.out] at cT0 cT1
        go_wp2_with fail
        rw [← HWT.out]
        clear cT0 cT1
        have hko := ko.lt (w.heap.size + 1) (by simp)
        have hk2 := HKO.out
        have hb1 := b1.size
        have hb2 := b2.size
        have HOT := Lib.hid (show ∀ W, Below Wt.heap.size Wt W → OwnS (.agg #[.bool X.1, .slice At_ X.2.length ct]) X W from fun W hb => OwnS.below ot.here hb)
        have HC0 := Lib.hid (show Chg [w.heap.size + 1] Wt Wt.drew from (Chg.refl _ _).drew1)
        have HCr := Lib.hid (show Chg [w.heap.size + 1] Wt Wt from Chg.refl _ _)
        have KL := Lib.hid (show ∀ W, Chg [w.heap.size + 1] Wt W → W.cell? ⟨w2.heap.size, 0, none⟩ = some (.bool X.1) ∧ W.cell? ⟨w2.heap.size, 1, none⟩ = some (.slice At_ X.2.length ct) ∧ Hid (Chg [w.heap.size + 1] Wt W) from fun W hc => ⟨(kt.chg hc (fun i hi hm => by simp at hi hm; omega)).here.cell 0 _ rfl, (kt.chg hc (fun i hi hm => by simp at hi hm; omega)).here.cell 1 _ rfl, Lib.hid hc⟩)
        have BBF := Lib.hid (show ∀ W, Chg [w.heap.size + 1] Wt W → Below w.heap.size w W from fun W hc => below_chg bbt hc bbt.size (fun i hi => by simp at hi; omega))
        go_region_held3 (fun W => W.cell? ⟨w2.heap.size, 0, none⟩ = some (.bool X.1) ∧ W.cell? ⟨w2.heap.size, 1, none⟩ = some (.slice At_ X.2.length ct) ∧ Hid (Chg [w.heap.size + 1] Wt W))
          ((refine KL.out _ ?_; (first | exact HC4.out | exact HC3.out | exact HCr.out | exact HC0.out | exact HC4.out.drew1 | exact HC3.out.drew1 | exact HCr.out.drew1 | exact HC0.out.drew1 | exact HC4.out.trans (Chg.of_below (below_al (Below.refl _ _) _)) | exact HC3.out.trans (Chg.of_below (below_al (Below.refl _ _) _)) | exact HCr.out.trans (Chg.of_below (below_al (Below.refl _ _) _)) | exact HC0.out.trans (Chg.of_below (below_al (Below.refl _ _) _)) | exact (Chg.setCell HC4.out (by simp) _) | exact (Chg.setCell (Chg.setCell HC4.out (by simp) _) (by simp) _) | fail)))
          (first
            | (go_at_call 49; (have hBB := (‹_ ∧ _ ∧ Hid (Chg [w.heap.size + 1] Wt _)›).2.2); (with_reducible refine ((implIntOf_any n _ (by omega) (by omega)).mono fun _ _ h => NewS.newV h).mono ?_); rintro e w3 ⟨ui, Si, rfl, oi, li, b3⟩; have HC3 := Lib.hid (hBB.out.trans (Chg.of_below b3)); (have ko_3 := At.below (by first | exact ko | exact At.below ko (below_al (Below.refl _ _) _) | exact At.below (At.below ko (below_al (Below.refl _ _) _)) (below_al (Below.refl _ _) _) | exact At.move ko (fun _ _ => rfl) (Nat.le_refl _)) b3); (have ot_3 := At.below (by first | exact ot | exact At.below ot (below_al (Below.refl _ _) _) | exact At.below (At.below ot (below_al (Below.refl _ _) _)) (below_al (Below.refl _ _) _) | exact At.move ot (fun _ _ => rfl) (Nat.le_refl _)) b3); obtain ⟨Ai, ci, rfl⟩ := ownS_form oi.here; have HBZ3 := Lib.hid hBB.out.size; clear hBB)
            | (go_at_call 95; (have hBB := (‹_ ∧ _ ∧ Hid (Chg [w.heap.size + 1] Wt _)›).2.2); (with_reducible refine ((implIntMul_any _ _ X (ofZ n) _ zX (by have := ofZ_len n; omega) (At.here (by first | exact ot_3 | exact At.below ot_3 (below_al (Below.refl _ _) _) | exact At.below (At.below ot_3 (below_al (Below.refl _ _) _)) (below_al (Below.refl _ _) _) | exact At.move ot_3 (fun _ _ => rfl) (Nat.le_refl _))) (At.here (by first | exact oi | exact At.below oi (below_al (Below.refl _ _) _) | exact At.below (At.below oi (below_al (Below.refl _ _) _)) (below_al (Below.refl _ _) _) | exact At.move oi (fun _ _ => rfl) (Nat.le_refl _)))).mono fun _ _ h => NewS.newV h).mono ?_); rintro e w4 ⟨uf, Sf, rfl, of, lf, b4⟩; have HC4 := Lib.hid (hBB.out.trans (Chg.of_below b4)); (have ko_4 := At.below (by first | exact ko_3 | exact At.below ko_3 (below_al (Below.refl _ _) _) | exact At.below (At.below ko_3 (below_al (Below.refl _ _) _)) (below_al (Below.refl _ _) _) | exact At.move ko_3 (fun _ _ => rfl) (Nat.le_refl _)) b4); (have ot_4 := At.below (by first | exact ot_3 | exact At.below ot_3 (below_al (Below.refl _ _) _) | exact At.below (At.below ot_3 (below_al (Below.refl _ _) _)) (below_al (Below.refl _ _) _) | exact At.move ot_3 (fun _ _ => rfl) (Nat.le_refl _)) b4); (have oi_4 := At.below (by first | exact oi | exact At.below oi (below_al (Below.refl _ _) _) | exact At.below (At.below oi (below_al (Below.refl _ _) _)) (below_al (Below.refl _ _) _) | exact At.move oi (fun _ _ => rfl) (Nat.le_refl _)) b4); obtain ⟨Af, cf, rfl⟩ := ownS_form of.here; have cz0 := ko_4.here.cell 0 _ rfl; have fz0 := Lib.frozen_of_heap ko_4.here 0; have cz1 := ko_4.here.cell 1 _ rfl; have fz1 := Lib.frozen_of_heap ko_4.here 1; have HBZ4 := Lib.hid hBB.out.size; clear hBB))
        have bb4 := BBF.out _ HC4.out
        replace kt := kt.chg HC4.out (fun i hi hm => by simp at hi hm; omega)
        replace ko := ko_4
        have ot := ot_4
        have oi := oi_4
        have HW := Lib.hid (newSb_at (b := bx) (r := w.heap.size + 1) of lf (by have := HBZ4.out; omega) (by omega) bb4)
        clear of ko kt ot oi
        go_wp2
        refine bodyPost_ret (v := .tuple #[.agg #[.bool _, .slice Af _ cf], .bool bx]) (by simp [results, Tryd.results44, go_sem, cz0, cz1]; exact ⟨rfl, rfl⟩) rfl ?_
        rw [HV.out.1, HV.out.2]
        exact HW.out
      · have h2n : 1000000 < n := by omega
        obtain ⟨s1, s2⟩ := step_no (x := x) (n := n) (m := m) (fun h => by have := h.2.1; have := h.2.2.1; omega)
        have HV := Lib.hid (show stepS x n m = zeroS ∧ stepB x n m = false from ⟨s2, s1⟩)
        clear s1 s2
        clear hl h1 h2
        have cz0 := ko.here.cell 0 _ rfl
        have fz0 := Lib.frozen_of_heap ko.here 0
        have cz1 := ko.here.cell 1 _ rfl
        have fz1 := Lib.frozen_of_heap ko.here 1
        go_enter Tryd.func44, Tryd.ntmps44
        have kx_c0 := kx.here.cell 0 _ rfl
        have kx_c1 := kx.here.cell 1 _ rfl
        go_wp2
        refine bodyPost_ret (v := .tuple #[.agg #[.bool false, .slice none 0 0], .bool false]) (by simp [results, Tryd.results44, go_sem, cz0, cz1]) rfl ?_
        rw [HV.out.1, HV.out.2]
        first | exact newSb_zero _ bb0 | exact newSb_zero _ (below_set2 bb0 (by omega))
    · have h1n : n < 1 := by omega
      obtain ⟨s1, s2⟩ := step_no (x := x) (n := n) (m := m) (fun h => by have := h.2.1; have := h.2.2.1; omega)
      have HV := Lib.hid (show stepS x n m = zeroS ∧ stepB x n m = false from ⟨s2, s1⟩)
      clear s1 s2
      clear hl h1
      have cz0 := ko.here.cell 0 _ rfl
      have fz0 := Lib.frozen_of_heap ko.here 0
      have cz1 := ko.here.cell 1 _ rfl
      have fz1 := Lib.frozen_of_heap ko.here 1
      go_enter Tryd.func44, Tryd.ntmps44
      have kx_c0 := kx.here.cell 0 _ rfl
      have kx_c1 := kx.here.cell 1 _ rfl
      go_wp2
      refine bodyPost_ret (v := .tuple #[.agg #[.bool false, .slice none 0 0], .bool false]) (by simp [results, Tryd.results44, go_sem, cz0, cz1]) rfl ?_
      rw [HV.out.1, HV.out.2]
      first | exact newSb_zero _ bb0 | exact newSb_zero _ (below_set2 bb0 (by omega))
  · have hl18 : (18 : Int) < (x.2.length : Int) := by omega
    obtain ⟨s1, s2⟩ := step_no (x := x) (n := n) (m := m) (fun h => by have := h.2.1; have := h.2.2.1; omega)
    have HV := Lib.hid (show stepS x n m = zeroS ∧ stepB x n m = false from ⟨s2, s1⟩)
    clear s1 s2
    clear hl
    have cz0 := ko.here.cell 0 _ rfl
    have fz0 := Lib.frozen_of_heap ko.here 0
    have cz1 := ko.here.cell 1 _ rfl
    have fz1 := Lib.frozen_of_heap ko.here 1
    go_enter Tryd.func44, Tryd.ntmps44
    have kx_c0 := kx.here.cell 0 _ rfl
    have kx_c1 := kx.here.cell 1 _ rfl
    go_wp2
    refine bodyPost_ret (v := .tuple #[.agg #[.bool false, .slice none 0 0], .bool false]) (by simp [results, Tryd.results44, go_sem, cz0, cz1]) rfl ?_
    rw [HV.out.1, HV.out.2]
    first | exact newSb_zero _ bb0 | exact newSb_zero _ (below_set2 bb0 (by omega))
end Go.Proofs.YthfkdofnoomhaaaDoor

namespace Go.Proofs.YthfkdofnoomhaaaDoor
open Go.RowKit

theorem postSb_pair {a x : SI} {b : Bool} (h1 : a = x) (h2 : b = true) {w w' : World} {n : Ending} (h : PostSb a b w n w') : PostSb x true w n w' := by subst h1 h2; exact h
set_option maxHeartbeats 8000000 in
set_option maxRecDepth 100000 in
theorem lawStep_small (v : Value) (bs : List Nat) (w : World) (hb : ∀ b ∈ bs, b < 256) (hn : bs.length ≤ 1048576) (hr : Row w 0 w.heap.size v (bytesV bs)) (hs : Sen w) :
    Calls Tryd.prog 9 #[v] w fun e w' => e = .returned (.bool true) ∧ Below w.heap.size w w' := by
  have HB := Lib.hid hb
  clear hb
  have hr0 := hr
  obtain ⟨A0, c0, rfl, _⟩ := hr
  have hlen : (bytesV bs).length = bs.length := by simp [bytesV]
  rw [hlen] at hr0 ⊢
  clear hlen
  have HRB := Lib.hid (show ∀ W, Below w.heap.size w W → Row W 0 W.heap.size (.slice A0 bs.length c0) (bytesV bs) from fun W h => (hr0.below h (Nat.le_refl _)).wide (Nat.le_refl _) h.size)
  have HS := Lib.hid hs
  clear hr0 hs
  have bb0 : Below w.heap.size w w := Below.refl _ _
  go_enter Tryd.func9, Tryd.ntmps9
  go_wp2_with fail
  refine (makeInt_any _ bs _ HB.out hn (HRB.out _ bb0)).mono ?_
  rintro e w1 ⟨ux, x, Sx, rfl, okx, hlx, o_x, b1⟩
  obtain ⟨Px, ex, rfl⟩ := ownS_form o_x.here
  have bb1 := Below.next bb0 b1
  have kx := box_new (w1) #[.bool x.1, .slice Px x.2.length ex] 28
  have alx := below_al (Below.refl (w1).heap.size (w1)) (.cells #[.bool x.1, .slice Px x.2.length ex] 28)
  have bbx := Below.next bb1 alx
  replace o_x := o_x.below alx
  go_wp2_with fail
  refine (makeNumB_any 500 _ bs _ (by omega) (by omega) HB.out hn (HRB.out _ bbx)).mono ?_
  rintro e w2 ⟨num, hn0, hn1, rfl, b2⟩
  have bb2 := Below.next bbx b2
  replace o_x := o_x.below b2
  replace kx := kx.below b2
  obtain ⟨n, hwn⟩ : ∃ n, IntKind.i64.wrap (1 + num) = n := ⟨_, rfl⟩
  have hn2 : n = 1 + num := by rw [← hwn]; exact IntWalk.i64_in _ (by omega)
  have h1 : 1 ≤ n := by omega
  have h5 : n ≤ 500 := by omega
  clear hn2 hn0 hn1
  go_wp2_with fail
  refine (makeMode_any _ bs _ HB.out hn (HRB.out _ bb2)).mono ?_
  rintro e w3 ⟨m, hm0, hm1, rfl, b3⟩
  have bb3 := Below.next bb2 b3
  replace o_x := o_x.below b3
  replace kx := kx.below b3
  have hm : modeB m = true := decide_eq_true ⟨hm0, by omega⟩
  obtain ⟨y, d, HA0⟩ := step_all okx hlx h1 h5 hm
  have HA := Lib.hid HA0
  obtain ⟨zx, zy, zs, zd, zn⟩ := HA0.sz
  clear HA0 okx hlx hm hm0 hm1
  have kx_c0 := kx.here.cell 0 _ rfl
  have kx_c1 := kx.here.cell 1 _ rfl
  go_wp2_with fail
  clear kx_c0 kx_c1
  refine ((implRoundTo_any _ x n m _ zx o_x.here (HS.out.below bb3)).mono fun _ _ h => postSb_pair HA.out.ey HA.out.by_ h).mono ?_
  rintro e w4 ⟨uy, Sy, rfl, o_y, _, b4⟩
  clear hwn
  obtain ⟨Py, ey, rfl⟩ := ownS_form o_y.here
  have bb4 := Below.next bb3 b4
  replace o_x := o_x.below b4
  replace kx := kx.below b4
  have ky := box_new (w4) #[.bool y.1, .slice Py y.2.length ey] 28
  have aly := below_al (Below.refl (w4).heap.size (w4)) (.cells #[.bool y.1, .slice Py y.2.length ey] 28)
  have bby := Below.next bb4 aly
  replace o_x := o_x.below aly
  replace kx := kx.below aly
  replace o_y := o_y.below aly
  obtain ⟨Wy, hWy⟩ : ∃ Wy, Wy = (w4.alloc (.cells #[.bool y.1, .slice Py y.2.length ey] 28)) := ⟨_, rfl⟩
  rw [← hWy] at ky bby o_x kx o_y
  have HWY := Lib.hid hWy
  clear hWy aly
  have hN : ∀ W : World, Calls Tryd.prog 46 #[.int .i64 n] W (NewV (fun u => OwnI u (limbs n.toNat)) W) := fun W => (implNatOf_any n W (by omega)).mono fun _ _ h => h.newV
  have CN := Lib.hid hN
  clear hN
  have hnl : (limbs n.toNat).length ≤ 1048576 := Nat.le_trans (limbs_length_le _ 50 (by have := bp50; omega)) (by decide)
  have CD := Lib.hid (show ∀ (v : Value) W, Chg [] Wy W → OwnI v (limbs n.toNat) W → Calls Tryd.prog 45 #[.slice Py y.2.length ey, v] W (TwoRows (divN y.2 (limbs n.toNat)).1 [] W) from fun v W hc ho => (implNatDiv_any _ v y.2 (limbs n.toNat) 0 _ 0 _ W (by unfold szS szI at zy; omega) hnl (Nat.le_refl _) (Nat.le_refl _) (OwnI.row (ownS_open (o_y.chg hc (fun i hi hm => by simp at hm)).here)) ho.row (HS.out.below (below_chg bby hc bby.size (fun i hi => by simp at hi)))).mono fun _ _ h => twoRows_eq h rfl HA.out.dv)
  clear hnl
  have ky_c0 := ky.here.cell 0 _ rfl
  have ky_c1 := ky.here.cell 1 _ rfl
  rw [HWY.out] at ky_c0 ky_c1
  go_wp2_with fail
  rw [← HWY.out]
  clear ky_c0 ky_c1
  have HC0 := Lib.hid (show Chg [] Wy Wy.drew from (Chg.refl _ _).drew1)
  have HCr := Lib.hid (show Chg [] Wy Wy from Chg.refl _ _)
  have KL := Lib.hid (show ∀ W, Chg [] Wy W → W.cell? ⟨w4.heap.size, 0, none⟩ = some (.bool y.1) ∧ W.cell? ⟨w4.heap.size, 1, none⟩ = some (.slice Py y.2.length ey) ∧ Hid (Chg [] Wy W) from fun W hc => ⟨(ky.chg hc (fun i hi hm => by simp at hm)).here.cell 0 _ rfl, (ky.chg hc (fun i hi hm => by simp at hm)).here.cell 1 _ rfl, Lib.hid hc⟩)
  have BBF := Lib.hid (show ∀ W, Chg [] Wy W → Below w.heap.size w W from fun W hc => below_chg bby hc bby.size (fun i hi => by simp at hi))
  go_region_held3 (fun W => W.cell? ⟨w4.heap.size, 0, none⟩ = some (.bool y.1) ∧ W.cell? ⟨w4.heap.size, 1, none⟩ = some (.slice Py y.2.length ey) ∧ Hid (Chg [] Wy W))
    ((refine KL.out _ ?_; (first | exact HC6.out | exact HC5.out | exact HCr.out | exact HC0.out | exact HC6.out.drew1 | exact HC5.out.drew1 | exact HCr.out.drew1 | exact HC0.out.drew1 | exact HC6.out.trans (Chg.of_below (below_al (Below.refl _ _) _)) | exact HC5.out.trans (Chg.of_below (below_al (Below.refl _ _) _)) | exact HCr.out.trans (Chg.of_below (below_al (Below.refl _ _) _)) | exact HC0.out.trans (Chg.of_below (below_al (Below.refl _ _) _)) | fail)))
    (first
      | (go_at_call 46; (have hBB := (‹_ ∧ _ ∧ Hid (Chg [] Wy _)›).2.2); (with_reducible refine (CN.out _).mono ?_); rintro e w5 ⟨un, Sn, rfl, on, ln, b5⟩; have HC5 := Lib.hid (hBB.out.trans (Chg.of_below b5)); obtain ⟨Pn, en, rfl⟩ := own_len on.here; have HBZ5 := Lib.hid hBB.out.size; clear hBB)
      | (go_at_call 45; (have hBB := (‹_ ∧ _ ∧ Hid (Chg [] Wy _)›).2.2); (with_reducible refine (CD.out _ _ hBB.out (At.here (by first | exact on | exact At.below on (below_al (Below.refl _ _) _) | exact At.below (At.below on (below_al (Below.refl _ _) _)) (below_al (Below.refl _ _) _) | exact At.move on (fun _ _ => rfl) (Nat.le_refl _)))).mono ?_); rintro e w6 ⟨vq, vr_, rfl, oq0, or0, _, b6⟩; have HC6 := Lib.hid (hBB.out.trans (Chg.of_below b6)); (have on_6 := At.below (by first | exact on | exact At.below on (below_al (Below.refl _ _) _) | exact At.below (At.below on (below_al (Below.refl _ _) _)) (below_al (Below.refl _ _) _) | exact At.move on (fun _ _ => rfl) (Nat.le_refl _)) b6); obtain ⟨Pq, eq, rfl⟩ := own_len oq0; obtain ⟨Pz, ez, rfl⟩ := own_len or0; clear oq0 or0; have HBZ6 := Lib.hid hBB.out.size; clear hBB))
  have bb6 := BBF.out _ HC6.out
  replace kx := kx.chg HC6.out (fun i hi hm => by simp at hm)
  replace ky := ky.chg HC6.out (fun i hi hm => by simp at hm)
  have on := on_6
  replace o_x := o_x.chg HC6.out (fun i hi hm => by simp at hm)
  replace o_y := o_y.chg HC6.out (fun i hi hm => by simp at hm)
  generalize (divN y.2 (limbs n.toNat)).1.length = ql at *
  have ky_c0 := ky.here.cell 0 _ rfl
  have ky_c1 := ky.here.cell 1 _ rfl
  go_wp2_with fail
  clear ky_c0 ky_c1
  refine ((implRoundTo_any _ y n m _ zy o_y.here (HS.out.below bb6)).mono fun _ _ h => postSb_pair HA.out.ez HA.out.bz h).mono ?_
  rintro e w7 ⟨uz, Sz, rfl, o_z, _, b7⟩
  obtain ⟨Pw, ew, rfl⟩ := ownS_form o_z.here
  have bb7 := Below.next bb6 b7
  replace o_x := o_x.below b7
  replace kx := kx.below b7
  replace o_y := o_y.below b7
  replace ky := ky.below b7
  have kz := box_new (w7) #[.bool y.1, .slice Pw y.2.length ew] 28
  have alz := below_al (Below.refl (w7).heap.size (w7)) (.cells #[.bool y.1, .slice Pw y.2.length ew] 28)
  have bbz := Below.next bb7 alz
  replace o_x := o_x.below alz
  replace kx := kx.below alz
  replace o_y := o_y.below alz
  replace ky := ky.below alz
  replace o_z := o_z.below alz
  have kx_c0 := kx.here.cell 0 _ rfl
  have kx_c1 := kx.here.cell 1 _ rfl
  have ky_c0 := ky.here.cell 0 _ rfl
  have ky_c1 := ky.here.cell 1 _ rfl
  go_wp2_with fail
  clear kx_c0 kx_c1 ky_c0 ky_c1
  refine ((implIntSub_any _ _ x y _ (by unfold szS szI at zx; omega) (by unfold szS szI at zy; omega) o_x.here o_y.here).mono fun _ _ h => NewS.newV h).mono ?_
  rintro e w8 ⟨us, Ss, rfl, o_s, _, b8⟩
  obtain ⟨Ps, es, rfl⟩ := ownS_form o_s.here
  have bb8 := Below.next bbz b8
  replace o_x := o_x.below b8
  replace kx := kx.below b8
  replace o_y := o_y.below b8
  replace ky := ky.below b8
  replace o_z := o_z.below b8
  replace kz := kz.below b8
  go_wp2_with fail
  refine ((implIntAbs_any _ (subS x y) _ (by unfold szS szI at zs; omega) o_s.here).mono fun _ _ h => newS_isT HA.out.ed h).mono ?_
  rintro e w9 ⟨ud, Sd, rfl, o_d, _, b9⟩
  obtain ⟨Pd, ed, rfl⟩ := ownS_form o_d.here
  have bb9 := Below.next bb8 b9
  replace o_x := o_x.below b9
  replace kx := kx.below b9
  replace o_y := o_y.below b9
  replace ky := ky.below b9
  replace o_z := o_z.below b9
  replace kz := kz.below b9
  replace o_s := o_s.below b9
  have kd := box_new (w9) #[.bool d.1, .slice Pd d.2.length ed] 28
  have ald := below_al (Below.refl (w9).heap.size (w9)) (.cells #[.bool d.1, .slice Pd d.2.length ed] 28)
  have bbd := Below.next bb9 ald
  replace o_x := o_x.below ald
  replace kx := kx.below ald
  replace o_y := o_y.below ald
  replace ky := ky.below ald
  replace o_z := o_z.below ald
  replace kz := kz.below ald
  replace o_s := o_s.below ald
  replace o_d := o_d.below ald
  clear kx o_x o_s
  obtain ⟨Wd, hWd⟩ : ∃ Wd, Wd = (w9.alloc (.cells #[.bool d.1, .slice Pd d.2.length ed] 28)) := ⟨_, rfl⟩
  rw [← hWd] at bbd o_y ky o_z kz o_d kd
  have HWD := Lib.hid hWd
  clear hWd ald
  obtain ⟨c, hc⟩ : ∃ c, cmpS d (ofZ n) = c := ⟨_, rfl⟩
  have HCC := Lib.hid hc
  have hlt : c < 0 := by have := HA.out.lt; rw [hc] at this; exact this
  have dlt : decide (c < 0) = true := decide_eq_true hlt
  clear hc
  have C1 := Lib.hid (show ∀ W, Chg [] Wd W → Calls Tryd.prog 37 #[.agg #[.bool y.1, .slice Pw y.2.length ew], .agg #[.bool y.1, .slice Py y.2.length ey]] W (Postn 0 W) from fun W hc => (implIntCmp_any _ _ y y W (by unfold szS szI at zy; omega) (by unfold szS szI at zy; omega) (o_z.chg hc (fun i hi hm => by simp at hm)).here (o_y.chg hc (fun i hi hm => by simp at hm)).here).mono fun _ _ h => postn_eq HA.out.yy h)
  have C2 := Lib.hid (show ∀ W : World, Calls Tryd.prog 49 #[.int .i64 n] W (NewV (fun u => OwnS u (ofZ n)) W) from fun W => (implIntOf_any n W (by omega) (by omega)).mono fun _ _ h => NewS.newV h)
  have C3 := Lib.hid (show ∀ (u : Value) W, Chg [] Wd W → OwnS u (ofZ n) W → Calls Tryd.prog 37 #[.agg #[.bool d.1, .slice Pd d.2.length ed], u] W (Postn c W) from fun u W hc ho => (implIntCmp_any _ _ d (ofZ n) W (by unfold szS szI at zd; omega) (by unfold szS szI at zn; omega) (o_d.chg hc (fun i hi hm => by simp at hm)).here ho).mono fun _ _ h => postn_eq HCC.out h)
  have kz_c0 := kz.here.cell 0 _ rfl
  have kz_c1 := kz.here.cell 1 _ rfl
  have ky_c0 := ky.here.cell 0 _ rfl
  have ky_c1 := ky.here.cell 1 _ rfl
  have kd_c0 := kd.here.cell 0 _ rfl
  have kd_c1 := kd.here.cell 1 _ rfl
  rw [HWD.out] at kz_c0 kz_c1 ky_c0 ky_c1 kd_c0 kd_c1
  go_wp2_with fail
  rw [← HWD.out]
  clear kz_c0 kz_c1 ky_c0 ky_c1 kd_c0 kd_c1
  have HC0 := Lib.hid (show Chg [] Wd Wd.drew from (Chg.refl _ _).drew1)
  have HCr := Lib.hid (show Chg [] Wd Wd from Chg.refl _ _)
  have KL := Lib.hid (show ∀ W, Chg [] Wd W → W.cell? ⟨w7.heap.size, 0, none⟩ = some (.bool y.1) ∧ W.cell? ⟨w7.heap.size, 1, none⟩ = some (.slice Pw y.2.length ew) ∧ W.cell? ⟨w4.heap.size, 0, none⟩ = some (.bool y.1) ∧ W.cell? ⟨w4.heap.size, 1, none⟩ = some (.slice Py y.2.length ey) ∧ W.cell? ⟨w9.heap.size, 0, none⟩ = some (.bool d.1) ∧ W.cell? ⟨w9.heap.size, 1, none⟩ = some (.slice Pd d.2.length ed) ∧ Hid (Chg [] Wd W) from fun W hc => ⟨(kz.chg hc (fun i hi hm => by simp at hm)).here.cell 0 _ rfl, (kz.chg hc (fun i hi hm => by simp at hm)).here.cell 1 _ rfl, (ky.chg hc (fun i hi hm => by simp at hm)).here.cell 0 _ rfl, (ky.chg hc (fun i hi hm => by simp at hm)).here.cell 1 _ rfl, (kd.chg hc (fun i hi hm => by simp at hm)).here.cell 0 _ rfl, (kd.chg hc (fun i hi hm => by simp at hm)).here.cell 1 _ rfl, Lib.hid hc⟩)
  have BBF := Lib.hid (show ∀ W, Chg [] Wd W → Below w.heap.size w W from fun W hc => below_chg bbd hc bbd.size (fun i hi => by simp at hi))
  go_region_held3 (fun W => W.cell? ⟨w7.heap.size, 0, none⟩ = some (.bool y.1) ∧ W.cell? ⟨w7.heap.size, 1, none⟩ = some (.slice Pw y.2.length ew) ∧ W.cell? ⟨w4.heap.size, 0, none⟩ = some (.bool y.1) ∧ W.cell? ⟨w4.heap.size, 1, none⟩ = some (.slice Py y.2.length ey) ∧ W.cell? ⟨w9.heap.size, 0, none⟩ = some (.bool d.1) ∧ W.cell? ⟨w9.heap.size, 1, none⟩ = some (.slice Pd d.2.length ed) ∧ Hid (Chg [] Wd W))
    ((refine KL.out _ ?_; (first | exact HC12.out | exact HC11.out | exact HC10.out | exact HCr.out | exact HC0.out | exact HC12.out.drew1 | exact HC11.out.drew1 | exact HC10.out.drew1 | exact HCr.out.drew1 | exact HC0.out.drew1 | exact HC12.out.trans (Chg.of_below (below_al (Below.refl _ _) _)) | exact HC11.out.trans (Chg.of_below (below_al (Below.refl _ _) _)) | exact HC10.out.trans (Chg.of_below (below_al (Below.refl _ _) _)) | exact HCr.out.trans (Chg.of_below (below_al (Below.refl _ _) _)) | exact HC0.out.trans (Chg.of_below (below_al (Below.refl _ _) _)) | fail)))
    (first
      | (go_at_call 37; (have hBB := (‹_ ∧ _ ∧ _ ∧ _ ∧ _ ∧ _ ∧ Hid (Chg [] Wd _)›).2.2.2.2.2.2); (with_reducible refine (C1.out _ hBB.out).mono ?_); rintro e w10 ⟨rfl, b10⟩; have HC10 := Lib.hid (hBB.out.trans (Chg.of_below b10)); have HBZ10 := Lib.hid hBB.out.size; clear hBB)
      | (go_at_call 49; (have hBB := (‹_ ∧ _ ∧ _ ∧ _ ∧ _ ∧ _ ∧ Hid (Chg [] Wd _)›).2.2.2.2.2.2); (with_reducible refine (C2.out _).mono ?_); rintro e w11 ⟨ui, Si, rfl, oi, li, b11⟩; have HC11 := Lib.hid (hBB.out.trans (Chg.of_below b11)); obtain ⟨Pi, ei, rfl⟩ := ownS_form oi.here; have HBZ11 := Lib.hid hBB.out.size; clear hBB)
      | (go_at_call 37; (have hBB := (‹_ ∧ _ ∧ _ ∧ _ ∧ _ ∧ _ ∧ Hid (Chg [] Wd _)›).2.2.2.2.2.2); (with_reducible refine (C3.out _ _ hBB.out (At.here (by first | exact oi | exact At.below oi (below_al (Below.refl _ _) _) | exact At.below (At.below oi (below_al (Below.refl _ _) _)) (below_al (Below.refl _ _) _) | exact At.move oi (fun _ _ => rfl) (Nat.le_refl _)))).mono ?_); rintro e w12 ⟨rfl, b12⟩; have HC12 := Lib.hid (hBB.out.trans (Chg.of_below b12)); (have oi_12 := At.below (by first | exact oi | exact At.below oi (below_al (Below.refl _ _) _) | exact At.below (At.below oi (below_al (Below.refl _ _) _)) (below_al (Below.refl _ _) _) | exact At.move oi (fun _ _ => rfl) (Nat.le_refl _)) b12); have HBZ12 := Lib.hid hBB.out.size; clear hBB))
  have bb12 := BBF.out _ HC12.out
  replace ky := ky.chg HC12.out (fun i hi hm => by simp at hm)
  replace kz := kz.chg HC12.out (fun i hi hm => by simp at hm)
  replace kd := kd.chg HC12.out (fun i hi hm => by simp at hm)
  have oi := oi_12
  go_wp2
  go_ret
  exact ⟨rfl, bb12⟩
theorem lawStep (v : Value) (bs : List Nat) (w : World) (hb : ∀ b ∈ bs, b < 256) (hm : bs.length ≤ 9223372036854775807) (hr : Row w 0 w.heap.size v (bytesV bs)) (hs : Sen w) :
    Calls Tryd.prog 9 #[v] w fun e w' => e = .returned (.bool true) ∧ Below w.heap.size w w' := by
  by_cases hn : bs.length ≤ 1048576
  · exact lawStep_small v bs w hb hn hr hs
  · obtain ⟨A0, c0, rfl, _⟩ := hr
    have hlen : (bytesV bs).length = bs.length := by simp [bytesV]
    rw [hlen]
    go_enter Tryd.func9, Tryd.ntmps9
    go_wp2
    go_ret
    exact ⟨rfl, Below.refl _ _⟩
end Go.Proofs.YthfkdofnoomhaaaDoor
