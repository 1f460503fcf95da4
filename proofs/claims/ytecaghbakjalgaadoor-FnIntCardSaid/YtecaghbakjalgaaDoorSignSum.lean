/-
  Chapter 5: sums of slices of signed numbers, in both packages.
-/
import Derived.Test.YtecaghbakjalgaaDoorSignedS
import Derived.Test.YtecaghbakjalgaaDoorSignAdd
import Derived.Test.YtecaghbakjalgaaDoorSignImpl3
namespace Go.Proofs.YtecaghbakjalgaaDoor
open Go.RowKit

/-- a slice that reads as these numbers, their limbs of the call's own -/
def OwnR (w : World) (v : Value) (l : List SI) : Prop :=
  ∃ A c, v = .slice A l.length c ∧ ∀ (j : Nat) x, l[j]? = some x → ∃ a u, A = some a ∧ a.block < w.heap.size ∧ w.cell? (a.add (j * 2)) = some (.bool x.1) ∧ w.cell? ⟨(a.add (j * 2)).block, (a.add (j * 2)).off + 1, none⟩ = some u ∧ OwnI u x.2 w
theorem OwnL.ownR {v : Value} {l : List SI} {lo hi : Nat} {w : World} (h : OwnL v l lo hi w) : OwnR w v l := by
  obtain ⟨g, e, rfl, h1, h2, h3, h4, h5⟩ := h
  refine ⟨_, _, rfl, fun j x hj => ?_⟩
  have hjl := (List.getElem?_eq_some_iff.1 hj).1
  obtain ⟨u, he, ho⟩ := h5.at_ hj
  have hf := flatC_get he
  refine ⟨⟨g, 0, none⟩, u, rfl, by show g < _; omega, ?_, ?_, ho⟩
  · have := h4.cellAt (j * 2) (by omega)
    rw [hf.1] at this
    rw [add_own]
    exact this
  · have := h4.cellAt (j * 2 + 1) (by omega)
    rw [hf.2] at this
    rw [add_own]
    exact this
theorem OwnR.rd {v : Value} {l : List SI} {w : World} (h : OwnR w v l) : RdL w v l := by
  obtain ⟨A, c, rfl, h⟩ := h
  refine ⟨A, c, rfl, fun j x hj => ?_⟩
  obtain ⟨a, u, rfl, h1, h2, h3, h4⟩ := h j x hj
  exact ⟨a, u, rfl, h1, h2, h3, h4.row⟩
def foldS (l : List SI) : SI := l.foldl addS zeroS
theorem foldS_snoc (l : List SI) (x : SI) : foldS (l ++ [x]) = addS (foldS l) x := by unfold foldS; rw [List.foldl_append]; rfl
theorem addS_len (x y : SI) : (addS x y).2.length ≤ 50 := by unfold addS; split; exact ofZ_len _; exact Nat.zero_le _
theorem foldS_len (l : List SI) : (foldS l).2.length ≤ 50 := by
  rcases List.eq_nil_or_concat l with rfl | ⟨r, x, rfl⟩
  · exact Nat.zero_le _
  · rw [List.concat_eq_append, foldS_snoc]; exact addS_len _ _
theorem sumS_ok {l : List SI} (h : l.all okS = true) : sumS l = foldS l := by unfold sumS; rw [if_pos h]; rfl
theorem sumS_bad {l : List SI} {j : Nat} {x : SI} (hx : l[j]? = some x) (h : ¬ okS x = true) : sumS l = zeroS := by
  unfold sumS
  rw [if_neg]
  intro ha
  rw [List.all_eq_true] at ha
  exact h (ha x (List.mem_of_getElem? hx))
theorem take_snoc {l : List SI} {k : Nat} {x : SI} (h : l[k]? = some x) : l.take (k + 1) = l.take k ++ [x] := by
  have hj := (List.getElem?_eq_some_iff.1 h).1
  rw [List.take_succ_eq_append_getElem hj, (List.getElem?_eq_some_iff.1 h).2]
theorem all_snoc {l : List SI} {k : Nat} {x : SI} (h : l[k]? = some x) (ha : (l.take k).all okS = true) (hx : okS x = true) : (l.take (k + 1)).all okS = true := by
  rw [take_snoc h, List.all_append, ha]
  simp [hx]
theorem set_box {g : Nat} {a b : Value} {c0 c1 : Value} {W : World} (h : BoxAt g #[c0, c1] 25 W) : BoxAt g #[a, b] 25 ((W.setCell ⟨g, 0, none⟩ a).setCell ⟨g, 1, none⟩ b) := swap_box h

set_option maxHeartbeats 2000000 in
set_option maxRecDepth 100000 in
theorem implIntSum_any (v : Value) (l : List SI) (w : World) (hl : l.length ≤ 140737488355328) (hx : ∀ x ∈ l, x.2.length ≤ 1048576) (h : OwnR w v l) :
    Calls Tryd.prog 19 #[v] w (NewS (sumS l) w) := by
  have hbb : Below w.heap.size w ((w.alloc (.cells #[.bool false, .slice none 0 0] 25)).alloc (.cells #[.bool false, .slice none 0 0] 25)) := below_al (below_al (Below.refl _ _) _) _
  have kr := (box_new w #[.bool false, .slice none 0 0] 25).below (below_al (Below.refl _ _) (.cells #[.bool false, .slice none 0 0] 25))
  have ko := box_new (w.alloc (.cells #[.bool false, .slice none 0 0] 25)) #[.bool false, .slice none 0 0] 25
  rw [show (w.alloc (.cells #[.bool false, .slice none 0 0] 25)).heap.size = w.heap.size + 1 by simp] at ko
  obtain ⟨A, c, rfl, hc⟩ := h
  have HC := Lib.hid hc
  clear hc
  obtain ⟨W0, hW0⟩ : ∃ W0, W0 = (w.alloc (.cells #[.bool false, .slice none 0 0] 25)).alloc (.cells #[.bool false, .slice none 0 0] 25) := ⟨_, rfl⟩
  rw [← hW0] at hbb kr ko
  have HW := Lib.hid hW0
  have HKR := Lib.hid kr.here
  have HKO := Lib.hid ko.here
  have HBB := Lib.hid hbb
  clear hW0 kr ko hbb
  go_enter Tryd.func19, Tryd.ntmps19
  go_wp2
  go_loopw [8] (fun i wr => ∃ (k : Nat) (u : Value), k ≤ l.length ∧ i = .int .i64 k ∧ Hid ((l.take k).all okS = true) ∧ Hid (BoxAt (w.heap.size + 1) #[.bool (foldS (l.take k)).1, u] 25 wr) ∧ Hid (wr.ownsRow w.heap.size 3 1 u (foldS (l.take k)).2.length (intsV (foldS (l.take k)).2)) ∧ Hid (BoxAt w.heap.size #[.bool false, .slice none 0 0] 25 wr) ∧ Hid (Below w.heap.size w wr)) (fun i _ => l.length - (intOf i).toNat)
  case atStart =>
    rw [← HW.out]
    exact ⟨0, .slice none 0 0, Nat.zero_le _, rfl, Lib.hid rfl, Lib.hid HKO.out, Lib.hid (World.ownsRow_nil _ _ _ _), HKR, HBB⟩
  case round =>
    obtain ⟨k, u, hk, rfl, HA, HO, HU, HR, HB⟩ := hrel
    have hso : w.heap.size + 1 < wr.heap.size := (Array.getElem?_eq_some_iff.1 HO.out).1
    obtain ⟨Au, cu, rfl⟩ := own_len HU.out
    by_cases hlt : k < l.length
    · obtain ⟨x, hxk⟩ : ∃ x, l[k]? = some x := ⟨_, List.getElem?_eq_getElem hlt⟩
      obtain ⟨a, ux, rfl, ha, hc0, hc1, hox⟩ := HC.out k x hxk
      have hxl := hx x (List.mem_of_getElem? hxk)
      obtain ⟨A1, c1, rfl⟩ := own_len hox
      have k0 : wr.cell? (a.add (k * 2)) = some (.bool x.1) := (HB.out.cell (by rw [block_add]; exact ha)).trans hc0
      have k1 : wr.cell? ⟨(a.add (k * 2)).block, (a.add (k * 2)).off + 1, none⟩ = some (.slice A1 x.2.length c1) := (HB.out.cell (by show (a.add (k * 2)).block < _; rw [block_add]; exact ha)).trans hc1
      have hbx := below_al (Below.refl wr.heap.size wr) (.cells #[.bool x.1, .slice A1 x.2.length c1] 25)
      have kx := box_new wr #[.bool x.1, .slice A1 x.2.length c1] 25
      have ox : (wr.alloc (.cells #[.bool x.1, .slice A1 x.2.length c1] 25)).ownsRow 0 3 1 (.slice A1 x.2.length c1) x.2.length (intsV x.2) := own_below (own_below hox HB.out) hbx
      have ko := (box_at HO.out).below hbx
      have kr := (box_at HR.out).below hbx
      have ou := own_below HU.out hbx
      have hfl := foldS_len (l.take k)
      have HTS := Lib.hid (take_snoc hxk)
      have HFS := Lib.hid (foldS_snoc (l.take k) x)
      have rdx := (OwnS.mk (x := x) (ownI_of ox)).rd
      have HSB := Lib.hid (fun h => sumS_bad hxk h)
      have HAS := Lib.hid (fun h => all_snoc hxk HA.out h)
      generalize foldS (l.take k) = s at *
      by_cases okx : okS x = true
      · go_wp2_with fail
        refine (implIntOk_any _ x _ hxl rdx).mono ?_
        rintro e w1 ⟨rfl, b1⟩
        rw [okx]
        replace kx := kx.below b1
        replace ko := ko.below b1
        replace kr := kr.below b1
        replace ou := own_below ou b1
        replace ox := own_below ox b1
        have bb1 := (HB.out.trans (show Below w.heap.size wr _ from ⟨hbx.os, hbx.tape, hbx.output, hbx.size, fun i hi => hbx.block i (by omega)⟩))
        have bb2 := Below.next bb1 b1
        have cx0 := kx.here.cell 0 _ rfl
        have cx1 := kx.here.cell 1 _ rfl
        have co0 := ko.here.cell 0 _ rfl
        have co1 := ko.here.cell 1 _ rfl
        have HKO2 := Lib.hid ko
        have HKR2 := Lib.hid kr
        have HB2 := Lib.hid bb2
        clear k0 k1 rdx kx ko kr bb1 bb2 hc0 hc1 ha hox
        go_wp2_with fail
        refine (implIntAdd_any _ _ s x _ (by omega) hxl (OwnS.mk (x := s) (ownI_of ou)) (OwnS.mk (x := x) (ownI_of ox))).mono ?_
        rintro e w2 ⟨u2, rfl, o2, b2⟩
        have ko3 := HKO2.out.below b2
        have kr3 := HKR2.out.below b2
        have bb3 := Below.next HB2.out b2
        rw [← HFS.out, ← HTS.out] at o2
        have e2 : addS s x = foldS (l.take (k + 1)) := by rw [HTS.out, HFS.out]
        rw [e2]
        have HALL := Lib.hid (HAS.out okx)
        clear e2 okx
        have hfo : Hid (∀ W : World, Hid (BoxAt (w.heap.size + 1) #[.bool (foldS (l.take (k + 1))).1, u2] 25 W) → Hid (W.ownsRow w.heap.size 3 1 u2 (foldS (l.take (k + 1))).2.length (intsV (foldS (l.take (k + 1))).2)) → Hid (BoxAt w.heap.size #[.bool false, .slice none 0 0] 25 W) → Hid (Below w.heap.size w W) →
          ∃ (k' : Nat) (u : Value), k' ≤ l.length ∧ Value.int .i64 ((k + 1 : Nat) : Int) = .int .i64 k' ∧ Hid ((l.take k').all okS = true) ∧ Hid (BoxAt (w.heap.size + 1) #[.bool (foldS (l.take k')).1, u] 25 W) ∧ Hid (W.ownsRow w.heap.size 3 1 u (foldS (l.take k')).2.length (intsV (foldS (l.take k')).2)) ∧ Hid (BoxAt w.heap.size #[.bool false, .slice none 0 0] 25 W) ∧ Hid (Below w.heap.size w W)) :=
          Lib.hid fun W h1 h2 h3 h4 => ⟨k + 1, u2, by omega, rfl, HALL, h1, h2, h3, h4⟩
        generalize foldS (l.take (k + 1)) = s2 at *
        obtain ⟨A2, c2, rfl⟩ := own_len o2
        have cz0 := ko3.here.cell 0 _ rfl
        have cz1 := ko3.here.cell 1 _ rfl
        have fz0 := Lib.frozen_of_heap ko3.here 0
        have fz1 := Lib.frozen_of_heap ko3.here 1
        have hne := Lib.ownBlock_ne o2 ko3.here (by decide)
        have h1 := set_box (a := .bool s2.1) (b := .slice A2 s2.2.length c2) ko3.here
        have h2 : ((w2.setCell ⟨w.heap.size + 1, 0, none⟩ (.bool s2.1)).setCell ⟨w.heap.size + 1, 1, none⟩ (.slice A2 s2.2.length c2)).ownsRow w.heap.size 3 1 (.slice A2 s2.2.length c2) s2.2.length (intsV s2.2) := own_stays (own_low o2 (by have := HB2.out.size; omega)) fun i hi => by
          have : i ≠ w.heap.size + 1 := fun e => hne (by rw [hi, e])
          exact (Below.heap_setCell _ _ _ _ this).trans (Below.heap_setCell _ _ _ _ this)
        have h3 : BoxAt w.heap.size #[.bool false, .slice none 0 0] 25 ((w2.setCell ⟨w.heap.size + 1, 0, none⟩ (.bool s2.1)).setCell ⟨w.heap.size + 1, 1, none⟩ (.slice A2 s2.2.length c2)) := by
          have hn : w.heap.size ≠ w.heap.size + 1 := by omega
          exact ((Below.heap_setCell _ _ _ _ hn).trans (Below.heap_setCell _ _ _ _ hn)).trans kr3.here
        have h4 : Below w.heap.size w ((w2.setCell ⟨w.heap.size + 1, 0, none⟩ (.bool s2.1)).setCell ⟨w.heap.size + 1, 1, none⟩ (.slice A2 s2.2.length c2)) := below_set2 bb3 (by omega)
        have HREL := Lib.hid (hfo.out _ (Lib.hid h1) (Lib.hid h2) (Lib.hid h3) (Lib.hid h4))
        clear h1 h2 h3 h4 ko3 kr3 bb3 o2 b2 hne cx0 cx1 co0 co1 ou ox
        go_wp2
        go_roundw
        case rel => exact HREL.out
        case measure => simp [intOf]; omega
      · have okx' : okS x = false := by simpa using okx
        go_wp2_with fail
        refine (implIntOk_any _ x _ hxl rdx).mono ?_
        rintro e w1 ⟨rfl, b1⟩
        rw [okx']
        replace kr := kr.below b1
        have bb1 := (HB.out.trans (show Below w.heap.size wr _ from ⟨hbx.os, hbx.tape, hbx.output, hbx.size, fun i hi => hbx.block i (by omega)⟩))
        have bb2 := Below.next bb1 b1
        have cz0 := kr.here.cell 0 _ rfl
        have cz1 := kr.here.cell 1 _ rfl
        have fz0 := Lib.frozen_of_heap kr.here 0
        have fz1 := Lib.frozen_of_heap kr.here 1
        have HV := Lib.hid (HSB.out okx)
        clear k0 k1 rdx kx ko kr hc0 hc1 ha hox ou ox okx okx' bb1
        go_wp2
        refine bodyPost_ret (v := .agg #[.bool false, .slice none 0 0]) (by simp [results, Tryd.results19, go_sem, cz0, cz1]) rfl ?_
        rw [HV.out]
        exact newS_zero (below_set2 bb2 (Nat.le_refl _))
    · obtain rfl : k = l.length := by omega
      have HV := Lib.hid (show sumS l = foldS l from sumS_ok (by have := HA.out; rwa [List.take_length] at this))
      rw [List.take_length] at HO HU
      generalize foldS l = s at *
      have co0 := HO.out.cell 0 _ rfl
      have co1 := HO.out.cell 1 _ rfl
      have cz0 := HR.out.cell 0 _ rfl
      have cz1 := HR.out.cell 1 _ rfl
      have fz0 := Lib.frozen_of_heap HR.out 0
      have fz1 := Lib.frozen_of_heap HR.out 1
      go_wp2
      refine bodyPost_ret (v := .agg #[.bool _, .slice Au _ cu]) (by simp [results, Tryd.results19, go_sem, cz0, cz1]; exact ⟨rfl, rfl⟩) rfl ?_
      rw [HV.out]
      exact newS_ret HR.out HU.out (Nat.le_refl _) (Nat.le_refl _) HB.out
end Go.Proofs.YtecaghbakjalgaaDoor
