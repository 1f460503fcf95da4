/-
  Signed numbers that a law draws: they are right, and short.
-/
import Derived.Test.YtecaghbakjalgaaDoorDrawNat
import Derived.Test.YtecaghbakjalgaaDoorSignSpec
import Derived.Test.YtecaghbakjalgaaDoorSignImpl3
import Derived.Deep.DeepCutAuto
namespace Go.Proofs.YtecaghbakjalgaaDoor
open Go.RowKit

theorem Cur.below {w w' : World} {g : Nat} {v : Value} {n : Nat} (h : Cur w g v n) (hb : Below w.heap.size w w') : Cur w' g v n := by
  have hlt := h.lt
  obtain ⟨i, k, h1, h2, h3, h4, h5⟩ := h
  exact ⟨i, k, h1, h2, h3, h4, (hb.block g hlt).trans h5⟩
theorem Cur.put {w : World} {g r : Nat} {v : Value} {n j : Nat} {u : Value} (h : Cur w g v n) (hne : g ≠ r) : Cur (w.setCell ⟨r, j, none⟩ u) g v n := by
  obtain ⟨i, k, h1, h2, h3, h4, h5⟩ := h
  exact ⟨i, k, h1, h2, h3, h4, (Below.heap_setCell _ _ _ _ hne).trans h5⟩
theorem Chg.setNew {T : List Nat} {w w1 : World} (h : Chg T w w1) {p : Addr} (hp : w.heap.size ≤ p.block) (u : Value) : Chg T w (w1.setCell p u) :=
  ⟨h.os, h.tape, h.output, by simpa [World.setCell] using h.size, fun i hi hn => (Below.heap_setCell _ _ _ _ (by omega)).trans (h.block i hi hn)⟩
theorem Chg.belowNext {T : List Nat} {w w1 w2 : World} (h : Chg T w w1) (hb : Below w1.heap.size w1 w2) : Chg T w w2 := h.trans (Chg.of_below hb)
theorem l01Once_any (m : Int) (g lo hi : Nat) (v : Value) (bs : List Nat) (w : World) (hm : 0 < m) (hm2 : m ≤ 2147483648) (hb : ∀ b ∈ bs, b < 256) (hn : bs.length ≤ 1048576) (hc : Cur w g v bs.length) (hr : Row w lo hi v (bytesV bs)) (hg : hi ≤ g) :
    Calls Tryd.prog 50 #[.pointer (some ⟨g, 0, none⟩), .int .i64 m] w fun e w' => ∃ b : Bool, e = .returned (.bool b) ∧ Cur w' g v bs.length ∧ w.grownBy w' (some g) := by
  have HB := Lib.hid hb
  clear hb
  go_enter Tryd.func50, Tryd.ntmps50
  go_wp2_with fail
  refine (l01Below_any m g lo hi v bs _ hm hm2 HB.out hn hc hr hg).mono ?_
  rintro e w1 ⟨x, _, _, rfl, hc1, hg1⟩
  go_wp2
  go_ret
  exact ⟨_, rfl, hc1, hg1⟩
/-- what a drawn signed number is -/
def DrawSPost (g : Nat) (v : Value) (n : Nat) (w : World) (e : Ending) (w' : World) : Prop :=
  ∃ (u : Value) (x : SI), e = .returned (.agg #[.bool x.1, u]) ∧ okS x = true ∧ x.2.length ≤ 4 ∧ w'.ownsRow w.heap.size 3 1 u x.2.length (intsV x.2) ∧ Cur w' g v n ∧ Chg [g] w w'
theorem drawS_ret {r g n : Nat} {u c0 c1 v : Value} {x : SI} {w W : World} {B : Nat} (hb : BoxAt r #[c0, c1] 25 W) (o : W.ownsRow B 3 1 u x.2.length (intsV x.2)) (hB : w.heap.size ≤ B) (hr : w.heap.size ≤ r) (hg : g < w.heap.size) (ok : okS x = true) (hl : x.2.length ≤ 4) (hc : Cur W g v n) (hW : Chg [g] w W) :
    DrawSPost g v n w (.returned (.agg #[.bool x.1, u])) ((W.setCell ⟨r, 0, none⟩ (.bool x.1)).setCell ⟨r, 1, none⟩ u) := by
  have hne := Lib.ownBlock_ne o hb (by decide)
  refine ⟨u, x, rfl, ok, hl, own_low (own_stays o fun i hi => ?_) hB, (hc.put (by omega)).put (by omega), (hW.setNew (p := ⟨r, 0, none⟩) hr _).setNew (p := ⟨r, 1, none⟩) hr _⟩
  have : i ≠ r := fun e => hne (by rw [hi, e])
  exact (Below.heap_setCell _ _ _ _ this).trans (Below.heap_setCell _ _ _ _ this)
theorem ofZ_small {z : Int} (h0 : -1000 ≤ z) (h1 : z ≤ 1000) : (ofZ z).2.length ≤ 4 := by
  unfold ofZ
  have h := limbs_length_le z.natAbs 1 (by show (z.natAbs : Int) < 1000000000 * 1; omega)
  split
  · exact Nat.le_trans h (by decide)
  · exact Nat.zero_le _
theorem mk_small {n : Bool} {xs : List Int} (ok : natOkB xs = true) (hl : xs.length ≤ 4) : okS (mkS n (trimL xs)) = true ∧ (mkS n (trimL xs)).2.length ≤ 4 := by
  rw [natOk_trim ok]
  have e : mkS n xs = (n && decide (0 < xs.length), xs) := by unfold mkS; rw [capL_short (by omega)]
  rw [e]
  refine ⟨?_, hl⟩
  unfold okS
  rw [ok]
  cases n with
  | false => rfl
  | true => by_cases h : 0 < xs.length <;> simp [h]
set_option maxHeartbeats 1000000 in
set_option maxRecDepth 100000 in
theorem l04Draw_any (g lo hi : Nat) (v : Value) (bs : List Nat) (w : World) (hb : ∀ b ∈ bs, b < 256) (hn : bs.length ≤ 1048576) (hc : Cur w g v bs.length) (hr : Row w lo hi v (bytesV bs)) (hg : hi ≤ g) :
    Calls Tryd.prog 28 #[.pointer (some ⟨g, 0, none⟩), .int .i64 4] w (DrawSPost g v bs.length w) := by
  have HB := Lib.hid hb
  have hgl := hc.lt
  clear hb
  have hbb : Below w.heap.size w (w.alloc (.cells #[.bool false, .slice none 0 0] 25)) := below_al (Below.refl _ _) _
  have kr := box_new w #[.bool false, .slice none 0 0] 25
  obtain ⟨W0, hW0⟩ : ∃ W0, W0 = w.alloc (.cells #[.bool false, .slice none 0 0] 25) := ⟨_, rfl⟩
  rw [← hW0] at hbb kr
  have HW := Lib.hid hW0
  have hc0 := hc.below hbb
  have hr0 := hr.below hbb (by omega)
  have hk0 : Chg [g] w W0 := Chg.of_below hbb
  have hz0 := hbb.size
  clear hW0 hc hr
  go_enter Tryd.func28, Tryd.ntmps28
  go_wp2_with fail
  rw [← HW.out]
  refine (l01Once_any 3 g lo hi v bs _ (by omega) (by omega) HB.out hn hc0 hr0 hg).mono ?_
  rintro e w1 ⟨b, rfl, hc1, hg1⟩
  have hr1 := hr0.far hg1 hg
  have hk1 := hk0.trans (Chg.of_cur hg1)
  have kr1 := kr.chg (Chg.of_cur hg1) (fun i hi hm => by simp at hi hm; omega)
  clear hc0 hr0 hk0 kr hg1
  cases b with
  | true =>
    go_wp2_with fail
    refine (l01Below_any 2001 g lo hi v bs _ (by omega) (by omega) HB.out hn hc1 hr1 hg).mono ?_
    rintro e w2 ⟨x, hx0, hx1, rfl, hc2, hg2⟩
    have hk2 := hk1.trans (Chg.of_cur hg2)
    have kr2 := kr1.chg (Chg.of_cur hg2) (fun i hi hm => by simp at hi hm; omega)
    clear hc1 hr1 hk1 kr1 hg2
    go_wp2_with fail
    refine (specIntOf_any (x - 1000) _ (by omega) (by omega)).mono ?_
    rintro e w3 ⟨u3, rfl, o3, b3⟩
    have HZ := Lib.hid (show okS (ofZ (x - 1000)) = true ∧ (ofZ (x - 1000)).2.length ≤ 4 from ⟨ofZ_ok _, ofZ_small (by omega) (by omega)⟩)
    generalize ofZ (x - 1000) = z at *
    obtain ⟨A3, c3, rfl⟩ := own_len o3
    have kr3 := kr2.below b3
    have hc3 := hc2.below b3
    have hk3 := hk2.belowNext b3
    have cz0 := kr3.here.cell 0 _ rfl
    have cz1 := kr3.here.cell 1 _ rfl
    have fz0 := Lib.frozen_of_heap kr3.here 0
    have fz1 := Lib.frozen_of_heap kr3.here 1
    have HO := Lib.hid o3
    have HK := Lib.hid kr3
    have HC := Lib.hid hc3
    have HG := Lib.hid hk3
    have hz2 := hk2.size
    clear o3 kr3 hc3 hk3 kr2 hc2 hk2 b3
    go_wp2
    refine bodyPost_ret (v := .agg #[.bool _, .slice A3 _ c3]) (by simp [results, Tryd.results28, go_sem, cz0, cz1]; exact ⟨rfl, rfl⟩) rfl ?_
    exact drawS_ret HK.out.here HO.out hz2 (Nat.le_refl _) hgl HZ.out.1 HZ.out.2 HC.out HG.out
  | false =>
    go_wp2_with fail
    refine (l01Once_any 2 g lo hi v bs _ (by omega) (by omega) HB.out hn hc1 hr1 hg).mono ?_
    rintro e w2 ⟨b2, rfl, hc2, hg2⟩
    have hr2 := hr1.far hg2 hg
    have hk2 := hk1.trans (Chg.of_cur hg2)
    have kr2 := kr1.chg (Chg.of_cur hg2) (fun i hi hm => by simp at hi hm; omega)
    clear hc1 hr1 hk1 kr1 hg2
    go_wp2_with fail
    refine (l02Nat_any 4 g lo hi v bs _ (by omega) HB.out hn hc2 hr2 hg).mono ?_
    rintro e w3 ⟨u3, xs, rfl, okx, hlx, o3, hc3, hg3⟩
    have hk3 := hk2.trans hg3
    have kr3 := kr2.chg hg3 (fun i hi hm => by simp at hi hm; omega)
    have HZ := Lib.hid (mk_small (n := b2) okx hlx)
    have hz2 := hk2.size
    clear hc2 hr2 hk2 kr2 hg3 okx
    go_wp2_with fail
    refine (l04Make_any b2 u3 xs _ _ (by omega) o3).mono ?_
    rintro e w4 ⟨u4, rfl, o4, b4⟩
    generalize mkS b2 (trimL xs) = z at *
    obtain ⟨A4, c4, rfl⟩ := own_len o4
    have kr4 := kr3.below b4
    have hc4 := hc3.below b4
    have hk4 := hk3.belowNext b4
    have hz3 := hk3.size
    have cz0 := kr4.here.cell 0 _ rfl
    have cz1 := kr4.here.cell 1 _ rfl
    have fz0 := Lib.frozen_of_heap kr4.here 0
    have fz1 := Lib.frozen_of_heap kr4.here 1
    have HO := Lib.hid o4
    have HK := Lib.hid kr4
    have HC := Lib.hid hc4
    have HG := Lib.hid hk4
    clear o4 kr4 hc4 hk4 kr3 hc3 hk3 b4 o3
    go_wp2
    refine bodyPost_ret (v := .agg #[.bool _, .slice A4 _ c4]) (by simp [results, Tryd.results28, go_sem, cz0, cz1]; exact ⟨rfl, rfl⟩) rfl ?_
    exact drawS_ret HK.out.here HO.out hz3 (Nat.le_refl _) hgl HZ.out.1 HZ.out.2 HC.out HG.out

/-- what MakeInts gives -/
def IntsPost (w : World) (e : Ending) (w' : World) : Prop :=
  ∃ (u v : Value) (x y : SI), e = .returned (.tuple #[.agg #[.bool x.1, u], .agg #[.bool y.1, v]]) ∧ okS x = true ∧ okS y = true ∧ x.2.length ≤ 4 ∧ y.2.length ≤ 4 ∧ w'.ownsRow w.heap.size 3 1 u x.2.length (intsV x.2) ∧ w'.ownsRow w.heap.size 3 1 v y.2.length (intsV y.2) ∧ Below w.heap.size w w'
theorem ints_laid {s : Nat} {a b : SI} {ua ub c0 c1 d0 d1 : Value} {w W : World} {B C : Nat} (hw : s = w.heap.size) (hr : BoxAt s #[c0, c1] 25 W) (hs : BoxAt (s + 1) #[d0, d1] 25 W)
    (oa : W.ownsRow B 3 1 ua a.2.length (intsV a.2)) (ob : W.ownsRow C 3 1 ub b.2.length (intsV b.2)) (hB : s ≤ B) (hC : s ≤ C) (hW : Below s w W) :
    BoxAt s #[.bool a.1, ua] 25 ((((W.setCell ⟨s, 0, none⟩ (.bool a.1)).setCell ⟨s, 1, none⟩ ua).setCell ⟨s + 1, 0, none⟩ (.bool b.1)).setCell ⟨s + 1, 1, none⟩ ub) ∧
    BoxAt (s + 1) #[.bool b.1, ub] 25 ((((W.setCell ⟨s, 0, none⟩ (.bool a.1)).setCell ⟨s, 1, none⟩ ua).setCell ⟨s + 1, 0, none⟩ (.bool b.1)).setCell ⟨s + 1, 1, none⟩ ub) ∧
    ((((W.setCell ⟨s, 0, none⟩ (.bool a.1)).setCell ⟨s, 1, none⟩ ua).setCell ⟨s + 1, 0, none⟩ (.bool b.1)).setCell ⟨s + 1, 1, none⟩ ub).ownsRow s 3 1 ua a.2.length (intsV a.2) ∧
    ((((W.setCell ⟨s, 0, none⟩ (.bool a.1)).setCell ⟨s, 1, none⟩ ua).setCell ⟨s + 1, 0, none⟩ (.bool b.1)).setCell ⟨s + 1, 1, none⟩ ub).ownsRow s 3 1 ub b.2.length (intsV b.2) ∧
    Below s w ((((W.setCell ⟨s, 0, none⟩ (.bool a.1)).setCell ⟨s, 1, none⟩ ua).setCell ⟨s + 1, 0, none⟩ (.bool b.1)).setCell ⟨s + 1, 1, none⟩ ub) := by
  subst hw
  have same : ∀ i, i ≠ w.heap.size → i ≠ w.heap.size + 1 → ((((W.setCell ⟨w.heap.size, 0, none⟩ (.bool a.1)).setCell ⟨w.heap.size, 1, none⟩ ua).setCell ⟨w.heap.size + 1, 0, none⟩ (.bool b.1)).setCell ⟨w.heap.size + 1, 1, none⟩ ub).heap[i]? = W.heap[i]? := fun i h1 h2 => by
    rw [Below.heap_setCell _ _ _ _ h2, Below.heap_setCell _ _ _ _ h2, Below.heap_setCell _ _ _ _ h1, Below.heap_setCell _ _ _ _ h1]
  have n1 := Lib.ownBlock_ne oa hr (by decide)
  have n2 := Lib.ownBlock_ne oa hs (by decide)
  have n3 := Lib.ownBlock_ne ob hr (by decide)
  have n4 := Lib.ownBlock_ne ob hs (by decide)
  refine ⟨?_, ?_, own_low (own_stays oa fun i hi => same i (fun e => n1 (by rw [hi, e])) (fun e => n2 (by rw [hi, e]))) hB, own_low (own_stays ob fun i hi => same i (fun e => n3 (by rw [hi, e])) (fun e => n4 (by rw [hi, e]))) hC, below_set2 (below_set2 hW (Nat.le_refl _)) (by omega)⟩
  · have hn : w.heap.size ≠ w.heap.size + 1 := by omega
    exact ((Below.heap_setCell _ _ _ _ hn).trans (Below.heap_setCell _ _ _ _ hn)).trans (swap_box hr)
  · refine swap_box (c0 := d0) (c1 := d1) ?_
    have hn : w.heap.size + 1 ≠ w.heap.size := by omega
    exact ((Below.heap_setCell _ _ _ _ hn).trans (Below.heap_setCell _ _ _ _ hn)).trans hs
set_option maxHeartbeats 2000000 in
set_option maxRecDepth 100000 in
theorem makeInts_any (v : Value) (bs : List Nat) (w : World) (hb : ∀ b ∈ bs, b < 256) (hn : bs.length ≤ 1048576) (hr : Row w 0 w.heap.size v (bytesV bs)) :
    Calls Tryd.prog 6 #[v] w (IntsPost w) := by
  have HB := Lib.hid hb
  clear hb
  have hbb : Below w.heap.size w ((w.alloc (.cells #[.bool false, .slice none 0 0] 25)).alloc (.cells #[.bool false, .slice none 0 0] 25)) := below_al (below_al (Below.refl _ _) _) _
  have kr := (box_new w #[.bool false, .slice none 0 0] 25).below (below_al (Below.refl _ _) (.cells #[.bool false, .slice none 0 0] 25))
  have ks := box_new (w.alloc (.cells #[.bool false, .slice none 0 0] 25)) #[.bool false, .slice none 0 0] 25
  rw [show (w.alloc (.cells #[.bool false, .slice none 0 0] 25)).heap.size = w.heap.size + 1 by simp] at ks
  obtain ⟨W0, hW0⟩ : ∃ W0, W0 = (w.alloc (.cells #[.bool false, .slice none 0 0] 25)).alloc (.cells #[.bool false, .slice none 0 0] 25) := ⟨_, rfl⟩
  rw [← hW0] at hbb kr ks
  have HW := Lib.hid hW0
  have hz0 : w.heap.size + 2 = W0.heap.size := by rw [hW0]; simp
  have hr0 := hr.below hbb (Nat.le_refl _)
  clear hW0 hr
  go_enter Tryd.func6, Tryd.ntmps6
  go_wp2_with fail
  rw [← HW.out]
  refine (l01New_any 0 w.heap.size v bs _ HB.out hn hr0).mono ?_
  rintro e w1 ⟨g, hg, rfl, hc1, b1⟩
  have hr1 := hr0.below b1 (by omega)
  have kr1 := kr.below b1
  have ks1 := ks.below b1
  have bb1 := Below.next hbb b1
  have hgl := hc1.lt
  clear hr0 kr ks hbb
  go_wp2_with fail
  refine (l04Draw_any g 0 w.heap.size v bs _ HB.out hn hc1 hr1 (by omega)).mono ?_
  rintro e w2 ⟨ux, x, rfl, okx, hlx, ox, hc2, hk2⟩
  have hz1 := b1.size
  have hr2 : Row w2 0 w.heap.size v (bytesV bs) := hr1.stays (fun p hp => World.cell?_of_block (hk2.block _ (by omega) (by simp; omega)))
  have kr2 := kr1.chg hk2 (fun i hi hm => by simp at hi hm; omega)
  have ks2 := ks1.chg hk2 (fun i hi hm => by simp at hi hm; omega)
  have bb2 := below_chg bb1 hk2 bb1.size (fun k hk => by simp at hk; omega)
  have OKX := Lib.hid okx
  obtain ⟨Ax, cx, rfl⟩ := own_len ox
  have hx := below_al (Below.refl w2.heap.size w2) (.cells #[.bool x.1, .slice Ax x.2.length cx] 25)
  have kx := box_new w2 #[.bool x.1, .slice Ax x.2.length cx] 25
  obtain ⟨W3, hW3⟩ : ∃ W3, W3 = w2.alloc (.cells #[.bool x.1, .slice Ax x.2.length cx] 25) := ⟨_, rfl⟩
  rw [← hW3] at hx kx
  have HW3 := Lib.hid hW3
  have hc3 := hc2.below hx
  have hr3 := hr2.below hx (by have := bb2.size; omega)
  have kr3 := kr2.below hx
  have ks3 := ks2.below hx
  have ox3 := own_below ox hx
  have bb3 := Below.next bb2 hx
  have hgl3 := hc3.lt
  have hz2 := hk2.size
  have hz3 := hx.size
  clear hc1 hr1 kr1 ks1 hc2 hr2 kr2 ks2 ox hx hW3 okx bb1 bb2
  have cx0 := kx.here.cell 0 _ rfl
  have cx1 := kx.here.cell 1 _ rfl
  go_upto_region 3 with fail
  rw [← HW3.out]
  go_cut [] (fun wx => ∃ (uy : Value) (y : SI), okS y = true ∧ y.2.length ≤ 4 ∧ BoxAt w.heap.size #[.bool x.1, .slice Ax x.2.length cx] 25 wx ∧ BoxAt (w.heap.size + 1) #[.bool y.1, uy] 25 wx ∧ wx.ownsRow w.heap.size 3 1 (.slice Ax x.2.length cx) x.2.length (intsV x.2) ∧ wx.ownsRow w.heap.size 3 1 uy y.2.length (intsV y.2) ∧ Below w.heap.size w wx)
  case first =>
    have HC3 := Lib.hid (show Cur W3.drew g v bs.length from hc3)
    have HR3 := Lib.hid (show Row W3.drew 0 w.heap.size v (bytesV bs) from hr3)
    have HKX := Lib.hid (show At [w2.heap.size] (BoxAt w2.heap.size #[.bool x.1, .slice Ax x.2.length cx] 25) W3.drew from kx.drewN 1)
    have HKR := Lib.hid (show At [w.heap.size] (BoxAt w.heap.size #[.bool false, .slice none 0 0] 25) W3.drew from kr3.drewN 1)
    have HKS := Lib.hid (show At [w.heap.size + 1] (BoxAt (w.heap.size + 1) #[.bool false, .slice none 0 0] 25) W3.drew from ks3.drewN 1)
    have HOX := Lib.hid ox3
    have HBB := Lib.hid (show Below w.heap.size w W3.drew from bb3.drew)
    have hwB : w.heap.size ≤ W3.drew.heap.size := by have := HBB.out.size; omega
    have hwz : W3.drew.heap.size = W3.heap.size := rfl
    clear hc3 hr3 kx kr3 ks3 ox3 bb3
    go_region_with (go_at_call 28; refine (l04Draw_any g 0 w.heap.size v bs _ HB.out hn HC3.out HR3.out (by omega)).mono ?_; rintro e w4 ⟨uy, y, rfl, oky, hly, oy, hc4, hk4⟩; obtain ⟨Ay, cy, rfl⟩ := own_len oy; have kx4 := HKX.out.chg hk4 (fun i hi hm => by simp at hi hm; omega); have kr4 := HKR.out.chg hk4 (fun i hi hm => by simp at hi hm; omega); have ks4 := HKS.out.chg hk4 (fun i hi hm => by simp at hi hm; omega); (have dx0 := kx4.here.cell 0 _ rfl); (have dx1 := kx4.here.cell 1 _ rfl); (have dr0 := kr4.here.cell 0 _ rfl); (have dr1 := kr4.here.cell 1 _ rfl); (have ds0 := ks4.here.cell 0 _ rfl); (have ds1 := ks4.here.cell 1 _ rfl); (have gr0 := Lib.frozen_of_heap kr4.here 0); (have gr1 := Lib.frozen_of_heap kr4.here 1); (have gs0 := Lib.frozen_of_heap ks4.here 0); (have gs1 := Lib.frozen_of_heap ks4.here 1); have HOY := Lib.hid oy; have HOK := Lib.hid (And.intro oky hly); have HK4 := Lib.hid hk4; have HR4 := Lib.hid kr4; have HS4 := Lib.hid ks4; clear oy oky hly hc4 hk4 kr4 ks4 kx4)
    all_goals
      go_wp2_with fail
      go_meet
      have HFIN := Lib.hid (ints_laid (w := w) rfl HR4.out.here HS4.out.here (own_stays HOX.out fun i hi => HK4.out.block i (own_lt HOX.out hi).2 (by have := (own_lt HOX.out hi).1; simp; omega)) HOY.out (by omega) (by omega) (below_chg HBB.out HK4.out hwB (fun i hi => by rw [List.mem_singleton.1 hi]; omega)))
      exact ⟨_, y, HOK.out.1, HOK.out.2, HFIN.out.1, HFIN.out.2.1, HFIN.out.2.2.1, HFIN.out.2.2.2.1, HFIN.out.2.2.2.2⟩
  rename World => w5
  obtain ⟨uy, y, oky, hly, k1, k2, o1, o2, bb5⟩ := hcut
  have cz0 := k1.cell 0 _ rfl
  have cz1 := k1.cell 1 _ rfl
  have cy0 := k2.cell 0 _ rfl
  have cy1 := k2.cell 1 _ rfl
  clear cx0 cx1 k1 k2
  go_wp2
  refine bodyPost_ret (v := .tuple #[.agg #[.bool _, .slice Ax _ cx], .agg #[.bool _, uy]]) (by simp [results, Tryd.results6, go_sem, cz0, cz1, cy0, cy1]; exact ⟨⟨rfl, rfl⟩, rfl⟩) rfl ?_
  exact ⟨_, _, x, y, rfl, OKX.out, oky, hlx, hly, o1, o2, bb5⟩
end Go.Proofs.YtecaghbakjalgaaDoor
