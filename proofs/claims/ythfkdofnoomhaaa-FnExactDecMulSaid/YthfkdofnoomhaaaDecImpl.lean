/-
  Chapter 8 of package impl: what its functions return that need no fractions.
-/
import Derived.Test.YthfkdofnoomhaaaDecSpec
import Derived.Test.YthfkdofnoomhaaaTenImpl
import Derived.Test.YthfkdofnoomhaaaSignImpl2
import Derived.Test.YthfkdofnoomhaaaSignImpl3
import Derived.Test.YthfkdofnoomhaaaSignImplCmp
namespace Go.Proofs.Ythfkdofnoomhaaa
open Go.RowKit

set_option maxHeartbeats 1000000 in
set_option maxRecDepth 100000 in
theorem implDecOk_any (vd : Value) (d : DI) (w : World) (hl : d.1.2.length ≤ 1048576) (hd : OwnD vd d w) :
    Calls Try.prog 11 #[vd] w (Postb (okD d) w) := by
  have Hd := Lib.hid hd
  obtain ⟨Ad, cd, rfl⟩ := ownD_form hd
  have ODd := Lib.hid (show ∀ W, Below w.heap.size w W → OwnD (.agg #[.bool d.1.1, .slice Ad d.1.2.length cd, .int .i64 d.2]) d W from fun W hb => OwnD.below Hd.out hb)
  have OId := Lib.hid (show ∀ W, Below w.heap.size w W → OwnI (.slice Ad d.1.2.length cd) d.1.2 W from fun W hb => ownD_open (ODd.out W hb))
  have OSd := Lib.hid (show ∀ W, Below w.heap.size w W → OwnS (.agg #[.bool d.1.1, .slice Ad d.1.2.length cd]) d.1 W from fun W hb => OwnS.mk (OId.out W hb))
  clear hd
  have bb0 : Below w.heap.size w (w.alloc (.cells #[.bool d.1.1, .slice Ad d.1.2.length cd, .int .i64 d.2] 31)) := below_al (Below.refl _ _) _
  have kd := (box_new w #[.bool d.1.1, .slice Ad d.1.2.length cd, .int .i64 d.2] 31)
  go_enter Try.func11, Try.ntmps11
  have kd_c0 := kd.here.cell 0 _ rfl
  have kd_c1 := kd.here.cell 1 _ rfl
  have kd_c2 := kd.here.cell 2 _ rfl
  go_wp2_with fail
  clear kd_c0 kd_c1 kd_c2
  refine (implIntOk_any _ d.1 _ hl (OwnS.rd (OSd.out _ bb0))).mono ?_
  rintro e w1 ⟨rfl, b1⟩
  have bb1 := Below.next bb0 b1
  replace kd := kd.below b1
  by_cases ok1 : okS d.1 = true
  · rw [ok1]
    have HO1 := Lib.hid ok1
    clear ok1
    by_cases hs : d.1.2.length ≤ 6
    · have HV0 := Lib.hid (show okD d = decide (0 ≤ d.2 ∧ d.2 ≤ 30) by unfold okD; rw [HO1.out, decide_eq_true hs]; rfl)
      have hs6 : (d.1.2.length : Int) ≤ 6 := by omega
      have hs7 : ¬ (6 : Int) < (d.1.2.length : Int) := by omega
      clear hs
      have kd_c0 := kd.here.cell 0 _ rfl
      have kd_c1 := kd.here.cell 1 _ rfl
      have kd_c2 := kd.here.cell 2 _ rfl
      by_cases h0 : 0 ≤ d.2
      · have h0n : ¬ d.2 < 0 := by omega
        have HV := Lib.hid (show okD d = decide (d.2 ≤ 30) by rw [HV0.out, decide_eq_decide]; exact ⟨fun h => h.2, fun h => ⟨h0, h⟩⟩)
        go_wp2
        go_ret
        exact ⟨ret_bool HV.out.symm, bb1⟩
      · have h0n : d.2 < 0 := by omega
        have HV := Lib.hid (show okD d = false by rw [HV0.out]; exact decide_eq_false (fun h => h0 h.1))
        go_wp2
        go_ret
        exact ⟨ret_bool HV.out.symm, bb1⟩
    · have HV := Lib.hid (show okD d = false by unfold okD; rw [decide_eq_false hs, Bool.false_and, Bool.and_false])
      have hs6 : ¬ (d.1.2.length : Int) ≤ 6 := by omega
      have hs7 : (6 : Int) < (d.1.2.length : Int) := by omega
      clear hs
      have kd_c0 := kd.here.cell 0 _ rfl
      have kd_c1 := kd.here.cell 1 _ rfl
      have kd_c2 := kd.here.cell 2 _ rfl
      go_wp2
      go_ret
      exact ⟨ret_bool HV.out.symm, bb1⟩
  · have ok1' : okS d.1 = false := by simpa using ok1
    have HV := Lib.hid (show okD d = false by unfold okD; rw [ok1']; rfl)
    rw [ok1']
    clear ok1 ok1'
    go_wp2
    go_ret
    exact ⟨ret_bool HV.out.symm, bb1⟩
set_option maxHeartbeats 1000000 in
set_option maxRecDepth 100000 in
theorem validDec_any (vx : Value) (x : SI) (k : Int) (S : List Nat) (w : World) (hl : x.2.length ≤ 1048576) (hx : At S (OwnS vx x) w) :
    Calls Try.prog 39 #[vx, .int .i64 k] w (KeptD S (decD x k).1 (decD x k).2 w) := by
  obtain ⟨Ax, cx, rfl⟩ := ownS_form hx.here
  have OX := Lib.hid (show ∀ W, Below w.heap.size w W → At S (OwnD (.agg #[.bool x.1, .slice Ax x.2.length cx, .int .i64 k]) (x, k)) W from fun W hb => (hx.below hb).imp fun _ h => OwnD.mk (q := (x, k)) (ownS_openD h))
  have HLT := Lib.hid hx.lt
  clear hx
  have bb0 : Below w.heap.size w ((w.alloc (.cells #[.bool x.1, .slice Ax x.2.length cx] 29)).alloc (.cells #[.bool false, .slice none 0 0, .int .i64 0] 31)) := below_al (below_al (Below.refl _ _) _) _
  have kx := (box_new w #[.bool x.1, .slice Ax x.2.length cx] 29).below (below_al (Below.refl _ _) (.cells #[.bool false, .slice none 0 0, .int .i64 0] 31))
  have ko := (box_new (w.alloc (.cells #[.bool x.1, .slice Ax x.2.length cx] 29)) #[.bool false, .slice none 0 0, .int .i64 0] 31)
  rw [show (w.alloc (.cells #[.bool x.1, .slice Ax x.2.length cx] 29)).heap.size = w.heap.size + 1 by simp] at ko
  go_enter Try.func39, Try.ntmps39
  have kx_c0 := kx.here.cell 0 _ rfl
  have kx_c1 := kx.here.cell 1 _ rfl
  have kd := box_new (((w.alloc (.cells #[.bool x.1, .slice Ax x.2.length cx] 29)).alloc (.cells #[.bool false, .slice none 0 0, .int .i64 0] 31))) #[.bool x.1, .slice Ax x.2.length cx, .int .i64 k] 31
  have ald := below_al (Below.refl (((w.alloc (.cells #[.bool x.1, .slice Ax x.2.length cx] 29)).alloc (.cells #[.bool false, .slice none 0 0, .int .i64 0] 31))).heap.size (((w.alloc (.cells #[.bool x.1, .slice Ax x.2.length cx] 29)).alloc (.cells #[.bool false, .slice none 0 0, .int .i64 0] 31)))) (.cells #[.bool x.1, .slice Ax x.2.length cx, .int .i64 k] 31)
  have bbd := Below.next bb0 ald
  replace kx := kx.below ald
  replace ko := ko.below ald
  rw [show ((w.alloc (.cells #[.bool x.1, .slice Ax x.2.length cx] 29)).alloc (.cells #[.bool false, .slice none 0 0, .int .i64 0] 31)).heap.size = w.heap.size + 1 + 1 by simp] at kd
  have kd_c0 := kd.here.cell 0 _ rfl
  have kd_c1 := kd.here.cell 1 _ rfl
  have kd_c2 := kd.here.cell 2 _ rfl
  go_wp2_with fail
  clear kx_c0 kx_c1 kd_c0 kd_c1 kd_c2
  refine (implDecOk_any _ (x, k) _ hl (OX.out _ bbd).here).mono ?_
  rintro e w1 ⟨rfl, b1⟩
  have bb1 := Below.next bbd b1
  replace kx := kx.below b1
  replace ko := ko.below b1
  replace kd := kd.below b1
  by_cases ok : okD (x, k) = true
  · rw [ok]
    have HV := Lib.hid (show decD x k = ((x, k), true) by unfold decD; rw [if_pos ok])
    clear ok kx
    have HW := Lib.hid (keptD_at (r := w.heap.size + 1) (b := true) (OX.out _ bb1) HLT.out (by omega) bb1)
    have kd_c0 := kd.here.cell 0 _ rfl
    have kd_c1 := kd.here.cell 1 _ rfl
    have kd_c2 := kd.here.cell 2 _ rfl
    have cz0 := ko.here.cell 0 _ rfl
    have fz0 := Lib.frozen_of_heap ko.here 0
    have cz1 := ko.here.cell 1 _ rfl
    have fz1 := Lib.frozen_of_heap ko.here 1
    have cz2 := ko.here.cell 2 _ rfl
    have fz2 := Lib.frozen_of_heap ko.here 2
    clear kd ko
    go_wp2
    refine bodyPost_ret (v := .tuple #[.agg #[.bool x.1, .slice Ax x.2.length cx, .int .i64 k], .bool true]) (by simp [results, Try.results39, go_sem, cz0, cz1, cz2]) rfl ?_
    rw [HV.out]
    exact HW.out
  · have ok' : okD (x, k) = false := by simpa using ok
    have HV := Lib.hid (show decD x k = (zeroD, false) by unfold decD; rw [if_neg ok])
    rw [ok']
    clear ok ok' kx kd
    have cz0 := ko.here.cell 0 _ rfl
    have fz0 := Lib.frozen_of_heap ko.here 0
    have cz1 := ko.here.cell 1 _ rfl
    have fz1 := Lib.frozen_of_heap ko.here 1
    have cz2 := ko.here.cell 2 _ rfl
    have fz2 := Lib.frozen_of_heap ko.here 2
    go_wp2
    refine bodyPost_ret (v := .tuple #[.agg #[.bool false, .slice none 0 0, .int .i64 0], .bool false]) (by simp [results, Try.results39, go_sem, cz0, cz1, cz2]) rfl ?_
    rw [HV.out]
    first | exact keptD_zero bb1 | exact keptD_zero (below_set3 bb1 (by omega))
set_option maxHeartbeats 1000000 in
set_option maxRecDepth 100000 in
theorem tenTo_any (k : Int) (w : World) : Calls Try.prog 65 #[.int .i64 k] w (NewV (fun u => OwnS u (tenS k)) w) := by
  have bb0 : Below w.heap.size w (w.alloc (.cells #[.bool false, .slice none 0 0] 29)) := below_al (Below.refl _ _) _
  have ko := (box_new w #[.bool false, .slice none 0 0] 29)
  have HKO := Lib.hid (ko.lt w.heap.size (by simp))
  go_enter Try.func65, Try.ntmps65
  go_wp2_with fail
  refine (implNatTen_any k _).mono ?_
  rintro e w1 ⟨v, rfl, o0, b1⟩
  obtain ⟨Af, cf, rfl⟩ := own_len o0
  have bb1 := Below.next bb0 b1
  replace ko := ko.below b1
  have of := (own_at' o0).imp (fun _ h => (OwnS.mk h : OwnS (.agg #[.bool (tenS k).1, .slice Af (tenN k).length cf]) (tenS k) _))
  have lf := own_within o0
  clear o0
  have HR := Lib.hid (newV_chg (φ := fun u => OwnS u (tenS k)) (v := .agg #[.bool false, .slice Af (tenN k).length cf]) (T := [w.heap.size]) of (fun i hi hm => by have := lf i hi; have := HKO.out; simp at hm; omega) (fun i hi => by simp at hi; omega) (fun i hi => by have := lf i hi; have := HKO.out; omega) bb1)
  have cz0 := ko.here.cell 0 _ rfl
  have fz0 := Lib.frozen_of_heap ko.here 0
  have cz1 := ko.here.cell 1 _ rfl
  have fz1 := Lib.frozen_of_heap ko.here 1
  clear of ko
  go_wp2
  refine bodyPost_ret (v := .agg #[.bool false, .slice Af (tenN k).length cf]) (by simp [results, Try.results65, go_sem, cz0, cz1]) rfl ?_
  refine HR.out _ ?_
  repeat (first | exact Chg.refl _ _ | refine Chg.setCell ?_ (by simp) _)
end Go.Proofs.Ythfkdofnoomhaaa
