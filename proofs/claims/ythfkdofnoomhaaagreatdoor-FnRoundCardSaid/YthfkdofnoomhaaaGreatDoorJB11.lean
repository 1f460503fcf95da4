/-
  RoundTo of package spec.
  RoundTo of package impl.
  The draws of the laws: a cursor over the bytes of a code. What a draw comes to is left open but for its range.
  The numbers that the law FnNat draws: valid nats of at most five limbs. And what laws.same returns.
  Fractions that a law draws: they are right, and short.
  Numbers and fractions of at most three limbs that a law draws: they are right, and short.
-/
import Derived.Deep.DeepCutAuto
import Derived.Deep.RegionHeld3
import Derived.StillTailTactics
import Derived.Test.YthfkdofnoomhaaaGreatDoorJB10
namespace Go.Proofs.YthfkdofnoomhaaaGreatDoor
open Go.RowKit

set_option maxHeartbeats 4000000 in
set_option maxRecDepth 100000 in
theorem specRoundTo_any (vx : Value) (x : SI) (n m : Int) (w : World) (hz : szS x ≤ 1048576) (hx : OwnS vx x w) :
    Calls Tryz.prog 47 #[vx, .int .i64 n, .int .i64 m] w (PostSb (stepS x n m) (stepB x n m) w) := by
  have Hx := Lib.hid hx
  obtain ⟨Ax, cx, rfl⟩ := ownS_form hx
  have OSx := Lib.hid (show ∀ W, Below w.heap.size w W → OwnS (.agg #[.bool x.1, .slice Ax x.2.length cx]) x W from fun W hb => OwnS.below Hx.out hb)
  have OIx := Lib.hid (show ∀ W, Below w.heap.size w W → OwnI (.slice Ax x.2.length cx) x.2 W from fun W hb => ownS_open (OSx.out W hb))
  clear hx
  have hlx : x.2.length ≤ 1048576 := by unfold szS szI at hz; omega
  have bb0 : Below w.heap.size w ((w.alloc (.cells #[.bool x.1, .slice Ax x.2.length cx] 28)).alloc (.cells #[.bool false, .slice none 0 0] 28)) := below_al (below_al (Below.refl _ _) _) _
  have kx := (box_new w #[.bool x.1, .slice Ax x.2.length cx] 28).below (below_al (Below.refl _ _) (.cells #[.bool false, .slice none 0 0] 28))
  have ko := (box_new (w.alloc (.cells #[.bool x.1, .slice Ax x.2.length cx] 28)) #[.bool false, .slice none 0 0] 28)
  rw [show (w.alloc (.cells #[.bool x.1, .slice Ax x.2.length cx] 28)).heap.size = w.heap.size + 1 by simp] at ko
  have HKO := Lib.hid (ko.lt (w.heap.size + 1) (by simp))
  go_enter Tryz.func47, Tryz.ntmps47
  have kx_c0 := kx.here.cell 0 _ rfl
  have kx_c1 := kx.here.cell 1 _ rfl
  go_wp2_with fail
  clear kx_c0 kx_c1
  refine (specIntOk_any _ x _ hlx (OwnS.rd (OSx.out _ bb0))).mono ?_
  rintro e w1 ⟨rfl, b1⟩
  have bb1 := Below.next bb0 b1
  replace kx := kx.below b1
  replace ko := ko.below b1
  by_cases ok : okS x = true
  · rw [ok]
    have HO := Lib.hid ok
    clear ok
    by_cases hin : 1 ≤ n ∧ n ≤ 1000000
    · have h1 := hin.1
      have h2 := hin.2
      have kx_c0 := kx.here.cell 0 _ rfl
      have kx_c1 := kx.here.cell 1 _ rfl
      go_wp2_with fail
      clear kx_c0 kx_c1
      refine (specIn_any n 1 1000000 true _ (decide_eq_true hin)).mono ?_
      rintro e w_ ⟨rfl, rfl⟩
      clear hin
      go_wp2_with fail
      refine (l06Mode_any m _).mono ?_
      rintro e w2 ⟨rfl, b2⟩
      have bb2 := Below.next bb1 b2
      replace kx := kx.below b2
      replace ko := ko.below b2
      by_cases hm : modeB m = true
      · rw [hm]
        have HM := Lib.hid hm
        clear hm
        obtain ⟨⟨Y, by_⟩, hQ⟩ : ∃ q, makeQ x (ofZ n) = q := ⟨_, rfl⟩
        have EQ := Lib.hid hQ
        have HQ := Lib.hid (fun hl : x.2.length ≤ 18 => quot_ok HO.out hl h1 h2)
        rw [hQ] at HQ
        have HY := Lib.hid (fun hl : x.2.length ≤ 18 => step_yes HO.out hl h1 h2 HM.out)
        rw [hQ] at HY
        clear hQ
        have kx_c0 := kx.here.cell 0 _ rfl
        have kx_c1 := kx.here.cell 1 _ rfl
        go_upto_region 3 with fail
        go_cut [8, 9] (fun s1 s2 wx => NewLocV 34 (fun v => OwnQ v Y) w2 s1 wx ∧ s2 = .bool by_)
        case first =>
          have HC0 := Lib.hid (show Chg [] w2 w2.drew from (Chg.refl _ _).drew1)
          have HCr := Lib.hid (show Chg [] w2 w2 from Chg.refl _ _)
          have KL := Lib.hid (show ∀ W, Chg [] w2 W → W.cell? ⟨w.heap.size, 0, none⟩ = some (.bool x.1) ∧ W.cell? ⟨w.heap.size, 1, none⟩ = some (.slice Ax x.2.length cx) ∧ Hid (Chg [] w2 W) from fun W hc => ⟨(kx.chg hc (fun i hi hm => by simp at hm)).here.cell 0 _ rfl, (kx.chg hc (fun i hi hm => by simp at hm)).here.cell 1 _ rfl, Lib.hid hc⟩)
          have BBF := Lib.hid (show ∀ W, Chg [] w2 W → Below w.heap.size w W from fun W hc => below_chg bb2 hc bb2.size (fun i hi => by simp at hi))
          clear kx_c0 kx_c1
          go_region_held3 (fun W => W.cell? ⟨w.heap.size, 0, none⟩ = some (.bool x.1) ∧ W.cell? ⟨w.heap.size, 1, none⟩ = some (.slice Ax x.2.length cx) ∧ Hid (Chg [] w2 W))
            ((refine KL.out _ ?_; (first | exact HC4.out | exact HC3.out | exact HCr.out | exact HC0.out | exact HC4.out.drew1 | exact HC3.out.drew1 | exact HCr.out.drew1 | exact HC0.out.drew1 | exact HC4.out.trans (Chg.of_below (below_al (Below.refl _ _) _)) | exact HC3.out.trans (Chg.of_below (below_al (Below.refl _ _) _)) | exact HCr.out.trans (Chg.of_below (below_al (Below.refl _ _) _)) | exact HC0.out.trans (Chg.of_below (below_al (Below.refl _ _) _)) | exact (Chg.setNew HC4.out (by first | exact HC4.out.size | exact HC3.out.size | exact HCr.out.size | exact HC0.out.size) _) | exact (Chg.setNew (Chg.setNew HC4.out (by first | exact HC4.out.size | exact HC3.out.size | exact HCr.out.size | exact HC0.out.size) _) (by first | exact HC4.out.size | exact HC3.out.size | exact HCr.out.size | exact HC0.out.size) _) | exact (Chg.setNew (Chg.setNew (Chg.setNew HC4.out (by first | exact HC4.out.size | exact HC3.out.size | exact HCr.out.size | exact HC0.out.size) _) (by first | exact HC4.out.size | exact HC3.out.size | exact HCr.out.size | exact HC0.out.size) _) (by first | exact HC4.out.size | exact HC3.out.size | exact HCr.out.size | exact HC0.out.size) _) | fail)))
            (first
              | (go_at_call 118; (have hBB := (‹_ ∧ _ ∧ Hid (Chg [] w2 _)›).2.2); (with_reducible refine ((specIntOf_any n _ (by omega) (by omega)).mono fun _ _ h => NewS.newV h).mono ?_); rintro e w3 ⟨ui, Si, rfl, oi, li, b3⟩; have HC3 := Lib.hid (hBB.out.trans (Chg.of_below b3)); obtain ⟨Ai, ci, rfl⟩ := ownS_form oi.here; (first | (have early3 : At [w2.heap.size] (BoxAt w2.heap.size #[.bool false, .slice none 0 0, .slice none 0 0] 34) w3 := At.below (box_new w2.drew _ _) b3) | (have early3 := At.below (box_new _ #[.bool false, .slice none 0 0, .slice none 0 0] 34) b3) | (have early3 := At.below early2 b3) | skip); have HBZ3 := Lib.hid hBB.out.size; clear hBB)
              | (go_at_call 117; (have hBB := (‹_ ∧ _ ∧ Hid (Chg [] w2 _)›).2.2); (with_reducible refine ((specRatMake_any _ _ x (ofZ n) _ hz (szS_50 (ofZ_ok n)) (OSx.out _ (BBF.out _ hBB.out)) (At.here (by first | exact oi | exact At.below oi (below_al (Below.refl _ _) _) | exact At.below (At.below oi (below_al (Below.refl _ _) _)) (below_al (Below.refl _ _) _) | exact At.move oi (fun _ _ => rfl) (Nat.le_refl _)))).mono fun _ _ h => postQb_is EQ.out h).mono ?_); rintro e w4 ⟨uf, Sf, rfl, of, lf, b4⟩; have HC4 := Lib.hid (hBB.out.trans (Chg.of_below b4)); (have oi_4 := At.below (by first | exact oi | exact At.below oi (below_al (Below.refl _ _) _) | exact At.below (At.below oi (below_al (Below.refl _ _) _)) (below_al (Below.refl _ _) _) | exact At.move oi (fun _ _ => rfl) (Nat.le_refl _)) b4); obtain ⟨Af, cf, Bf, df, rfl⟩ := ownQ_form of.here; (first | have hbxg := At.below_lt (box_new _ #[.bool false, .slice none 0 0, .slice none 0 0] 34) b4 | have hbxg := At.below_lt early3 b4 | skip); (try (have hbxf := hbxg.1; have HGB := Lib.hid hbxg.2; clear hbxg)); (try (have cz0 := hbxf.here.cell 0 _ rfl; have fz0 := Lib.frozen_of_heap hbxf.here 0; have cz1 := hbxf.here.cell 1 _ rfl; have fz1 := Lib.frozen_of_heap hbxf.here 1; have cz2 := hbxf.here.cell 2 _ rfl; have fz2 := Lib.frozen_of_heap hbxf.here 2)); have HBZ4 := Lib.hid hBB.out.size; clear hBB))
          all_goals (go_wp2_with fail; go_meet; first | exact ⟨newLocV_last of lf HBZ4.out (below_of_chg HC4.out), rfl⟩ | exact ⟨newLocV_early3 hbxf.here of lf (by first | exact HC3.out.size | exact HCr.out.size | exact HC0.out.size) HGB.out (below_of_chg HC4.out), rfl⟩)
        rename World => w3
        clear kx_c0 kx_c1
        obtain ⟨⟨gy, csy, Sy, rfl, ky, oy, ny, ly, b3⟩, rfl⟩ := hcut
        obtain ⟨Ay, cy, By, dy, ey⟩ := ownQ_form oy.here
        injection ey with ey
        subst ey
        have bb3 := Below.next bb2 b3
        replace kx := kx.below b3
        replace ko := ko.below b3
        by_cases hl : x.2.length ≤ 18
        · obtain ⟨q1, q2⟩ := HQ.out hl
          obtain ⟨s1, s2⟩ := HY.out hl
          have HV := Lib.hid (show stepS x n m = mulS (roundS Y m) (ofZ n) ∧ stepB x n m = true from ⟨s2, s1⟩)
          replace q1 : by_ = true := q1
          subst q1
          have HK := Lib.hid q2
          have hl18 : ¬ ((18 : Int) < (x.2.length : Int)) := by omega
          clear s1 s2 q2 hl
          have kx_c0 := kx.here.cell 0 _ rfl
          have kx_c1 := kx.here.cell 1 _ rfl
          have ky_c0 := ky.here.cell 0 _ rfl
          have ky_c1 := ky.here.cell 1 _ rfl
          have ky_c2 := ky.here.cell 2 _ rfl
          go_wp2_with fail
          clear kx_c0 kx_c1 ky_c0 ky_c1 ky_c2
          refine (l06Round_any _ Y m _ HK.out HM.out oy.here).mono ?_
          rintro e w4 ⟨ux, Sx, rfl, ox, lx, b4⟩
          obtain ⟨Az, cz, rfl⟩ := ownS_form ox.here
          have bb4 := Below.next bb3 b4
          replace kx := kx.below b4
          replace ko := ko.below b4
          replace ky := ky.below b4
          replace oy := oy.below b4
          go_wp2_with fail
          refine ((specIntOf_any n _ (by omega) (by omega)).mono fun _ _ h => NewS.newV h).mono ?_
          rintro e w5 ⟨ui, Si, rfl, oi, li, b5⟩
          obtain ⟨Ai, ci, rfl⟩ := ownS_form oi.here
          have bb5 := Below.next bb4 b5
          replace kx := kx.below b5
          replace ko := ko.below b5
          replace ky := ky.below b5
          replace oy := oy.below b5
          replace ox := ox.below b5
          go_wp2_with fail
          refine ((specIntMul_any _ _ (roundS Y m) (ofZ n) _ (by have := roundS_len Y m; omega) (by have := ofZ_len n; omega) ox.here oi.here).mono fun _ _ h => NewS.newV h).mono ?_
          rintro e w6 ⟨uf, Sf, rfl, of, lf, b6⟩
          obtain ⟨Af, cf, rfl⟩ := ownS_form of.here
          have bb6 := Below.next bb5 b6
          replace kx := kx.below b6
          replace ko := ko.below b6
          replace ky := ky.below b6
          replace oy := oy.below b6
          replace ox := ox.below b6
          replace oi := oi.below b6
          clear ox oi ky oy
          have HW := Lib.hid (newSb_at (b := true) (r := w.heap.size + 1) of lf (by have := HKO.out; have := b1.size; have := b2.size; have := b3.size; have := b4.size; have := b5.size; omega) (by omega) bb6)
          have cq0 := ko.here.cell 0 _ rfl
          have fq0 := Lib.frozen_of_heap ko.here 0
          have cq1 := ko.here.cell 1 _ rfl
          have fq1 := Lib.frozen_of_heap ko.here 1
          clear of ko kx
          go_wp2
          refine bodyPost_ret (v := .tuple #[.agg #[.bool _, .slice Af _ cf], .bool true]) (by simp [results, Tryz.results47, go_sem, cq0, cq1]; exact ⟨rfl, rfl⟩) rfl ?_
          rw [HV.out.1, HV.out.2]
          exact HW.out
        · have hl18 : (18 : Int) < (x.2.length : Int) := by omega
          obtain ⟨s1, s2⟩ := step_no (x := x) (n := n) (m := m) (fun h => hl h.2.1)
          have HV := Lib.hid (show stepS x n m = zeroS ∧ stepB x n m = false from ⟨s2, s1⟩)
          clear s1 s2
          clear hl HQ HY
          have kx_c0 := kx.here.cell 0 _ rfl
          have kx_c1 := kx.here.cell 1 _ rfl
          cases by_
          · skip
            have cz0 := ko.here.cell 0 _ rfl
            have fz0 := Lib.frozen_of_heap ko.here 0
            have cz1 := ko.here.cell 1 _ rfl
            have fz1 := Lib.frozen_of_heap ko.here 1
            go_wp2
            refine bodyPost_ret (v := .tuple #[.agg #[.bool false, .slice none 0 0], .bool false]) (by simp [results, Tryz.results47, go_sem, cz0, cz1]) rfl ?_
            rw [HV.out.1, HV.out.2]
            first | exact newSb_zero _ bb3 | exact newSb_zero _ (below_set2 bb3 (by omega))
          · skip
            have cz0 := ko.here.cell 0 _ rfl
            have fz0 := Lib.frozen_of_heap ko.here 0
            have cz1 := ko.here.cell 1 _ rfl
            have fz1 := Lib.frozen_of_heap ko.here 1
            go_wp2
            refine bodyPost_ret (v := .tuple #[.agg #[.bool false, .slice none 0 0], .bool false]) (by simp [results, Tryz.results47, go_sem, cz0, cz1]) rfl ?_
            rw [HV.out.1, HV.out.2]
            first | exact newSb_zero _ bb3 | exact newSb_zero _ (below_set2 bb3 (by omega))
      · have hm' : modeB m = false := by simpa using hm
        obtain ⟨s1, s2⟩ := step_no (x := x) (n := n) (m := m) (fun h => hm h.2.2.2)
        have HV := Lib.hid (show stepS x n m = zeroS ∧ stepB x n m = false from ⟨s2, s1⟩)
        clear s1 s2
        rw [hm']
        clear hm hm'
        have cz0 := ko.here.cell 0 _ rfl
        have fz0 := Lib.frozen_of_heap ko.here 0
        have cz1 := ko.here.cell 1 _ rfl
        have fz1 := Lib.frozen_of_heap ko.here 1
        go_wp2
        refine bodyPost_ret (v := .tuple #[.agg #[.bool false, .slice none 0 0], .bool false]) (by simp [results, Tryz.results47, go_sem, cz0, cz1]) rfl ?_
        rw [HV.out.1, HV.out.2]
        first | exact newSb_zero _ bb2 | exact newSb_zero _ (below_set2 bb2 (by omega))
    · skip
      obtain ⟨s1, s2⟩ := step_no (x := x) (n := n) (m := m) (fun h => hin h.2.2.1)
      have HV := Lib.hid (show stepS x n m = zeroS ∧ stepB x n m = false from ⟨s2, s1⟩)
      clear s1 s2
      have kx_c0 := kx.here.cell 0 _ rfl
      have kx_c1 := kx.here.cell 1 _ rfl
      go_wp2_with fail
      clear kx_c0 kx_c1
      refine (specIn_any n 1 1000000 false _ (decide_eq_false hin)).mono ?_
      rintro e w_ ⟨rfl, rfl⟩
      clear hin
      have cz0 := ko.here.cell 0 _ rfl
      have fz0 := Lib.frozen_of_heap ko.here 0
      have cz1 := ko.here.cell 1 _ rfl
      have fz1 := Lib.frozen_of_heap ko.here 1
      go_wp2
      refine bodyPost_ret (v := .tuple #[.agg #[.bool false, .slice none 0 0], .bool false]) (by simp [results, Tryz.results47, go_sem, cz0, cz1]) rfl ?_
      rw [HV.out.1, HV.out.2]
      first | exact newSb_zero _ bb1 | exact newSb_zero _ (below_set2 bb1 (by omega))
  · have ok' : okS x = false := by simpa using ok
    obtain ⟨s1, s2⟩ := step_no (x := x) (n := n) (m := m) (fun h => ok h.1)
    have HV := Lib.hid (show stepS x n m = zeroS ∧ stepB x n m = false from ⟨s2, s1⟩)
    clear s1 s2
    rw [ok']
    clear ok ok'
    have cz0 := ko.here.cell 0 _ rfl
    have fz0 := Lib.frozen_of_heap ko.here 0
    have cz1 := ko.here.cell 1 _ rfl
    have fz1 := Lib.frozen_of_heap ko.here 1
    go_wp2
    refine bodyPost_ret (v := .tuple #[.agg #[.bool false, .slice none 0 0], .bool false]) (by simp [results, Tryz.results47, go_sem, cz0, cz1]) rfl ?_
    rw [HV.out.1, HV.out.2]
    first | exact newSb_zero _ bb1 | exact newSb_zero _ (below_set2 bb1 (by omega))
end Go.Proofs.YthfkdofnoomhaaaGreatDoor

namespace Go.Proofs.YthfkdofnoomhaaaGreatDoor
open Go.RowKit

set_option maxHeartbeats 4000000 in
set_option maxRecDepth 100000 in
theorem implRoundTo_any (vx : Value) (x : SI) (n m : Int) (w : World) (hz : szS x ≤ 1048576) (hx : OwnS vx x w) (hsen : Sen w) :
    Calls Tryz.prog 49 #[vx, .int .i64 n, .int .i64 m] w (PostSb (stepS x n m) (stepB x n m) w) := by
  have HS := Lib.hid hsen
  clear hsen
  have Hx := Lib.hid hx
  obtain ⟨Ax, cx, rfl⟩ := ownS_form hx
  have OSx := Lib.hid (show ∀ W, Below w.heap.size w W → OwnS (.agg #[.bool x.1, .slice Ax x.2.length cx]) x W from fun W hb => OwnS.below Hx.out hb)
  have OIx := Lib.hid (show ∀ W, Below w.heap.size w W → OwnI (.slice Ax x.2.length cx) x.2 W from fun W hb => ownS_open (OSx.out W hb))
  clear hx
  have hlx : x.2.length ≤ 1048576 := by unfold szS szI at hz; omega
  have bb0 : Below w.heap.size w ((w.alloc (.cells #[.bool x.1, .slice Ax x.2.length cx] 28)).alloc (.cells #[.bool false, .slice none 0 0] 28)) := below_al (below_al (Below.refl _ _) _) _
  have kx := (box_new w #[.bool x.1, .slice Ax x.2.length cx] 28).below (below_al (Below.refl _ _) (.cells #[.bool false, .slice none 0 0] 28))
  have ko := (box_new (w.alloc (.cells #[.bool x.1, .slice Ax x.2.length cx] 28)) #[.bool false, .slice none 0 0] 28)
  rw [show (w.alloc (.cells #[.bool x.1, .slice Ax x.2.length cx] 28)).heap.size = w.heap.size + 1 by simp] at ko
  have HKO := Lib.hid (ko.lt (w.heap.size + 1) (by simp))
  by_cases hl : x.2.length ≤ 18
  · have hl18 : ¬ ((18 : Int) < (x.2.length : Int)) := by omega
    by_cases h1 : 1 ≤ n
    · have h1n : ¬ n < 1 := by omega
      by_cases h2 : n ≤ 1000000
      · have h2n : ¬ 1000000 < n := by omega
        have hsi := step_impl (x := x) (n := n) (m := m) hl h1 h2
        clear hl
        obtain ⟨⟨Y, by_⟩, hQ⟩ : ∃ q, makeQ x (ofZ n) = q := ⟨_, rfl⟩
        have EQ := Lib.hid hQ
        have zY : szQ Y ≤ 1048576 := by have := makeQ_szQ x (ofZ n); rw [hQ] at this; exact this
        rw [hQ] at hsi
        clear hQ
        obtain ⟨⟨X, bx⟩, hX⟩ : ∃ q, roundR Y m = q := ⟨_, rfl⟩
        have EX := Lib.hid hX
        have zX : X.2.length ≤ 1048576 := by have := roundR_sz Y m; rw [hX] at this; unfold szS szI at this; simp only at this; omega
        rw [show roundR (Y, by_).1 m = (X, bx) from hX] at hsi
        have HV := Lib.hid (show stepS x n m = mulS X (ofZ n) ∧ stepB x n m = bx from ⟨hsi.2.symm, hsi.1.symm⟩)
        clear hX hsi
        obtain ⟨W0, hW0⟩ : ∃ W0, W0 = ((w.alloc (.cells #[.bool x.1, .slice Ax x.2.length cx] 28)).alloc (.cells #[.bool false, .slice none 0 0] 28)) := ⟨_, rfl⟩
        rw [← hW0] at bb0 kx ko HKO
        have HW0 := Lib.hid hW0
        clear hW0
        have kx_c0 := kx.here.cell 0 _ rfl
        have kx_c1 := kx.here.cell 1 _ rfl
        rw [HW0.out] at kx_c0 kx_c1
        go_enter Tryz.func49, Tryz.ntmps49
        go_upto_region 3 with fail
        rw [← HW0.out]
        go_cut [8, 9] (fun s1 s2 wx => NewLocV 34 (fun v => OwnQ v Y) W0 s1 wx ∧ s2 = .bool by_)
        case first =>
          have HC0 := Lib.hid (show Chg [] W0 W0.drew from (Chg.refl _ _).drew1)
          have HCr := Lib.hid (show Chg [] W0 W0 from Chg.refl _ _)
          have KL := Lib.hid (show ∀ W, Chg [] W0 W → W.cell? ⟨w.heap.size, 0, none⟩ = some (.bool x.1) ∧ W.cell? ⟨w.heap.size, 1, none⟩ = some (.slice Ax x.2.length cx) ∧ Hid (Chg [] W0 W) from fun W hc => ⟨(kx.chg hc (fun i hi hm => by simp at hm)).here.cell 0 _ rfl, (kx.chg hc (fun i hi hm => by simp at hm)).here.cell 1 _ rfl, Lib.hid hc⟩)
          have BBF := Lib.hid (show ∀ W, Chg [] W0 W → Below w.heap.size w W from fun W hc => below_chg bb0 hc bb0.size (fun i hi => by simp at hi))
          clear kx_c0 kx_c1
          go_region_held3 (fun W => W.cell? ⟨w.heap.size, 0, none⟩ = some (.bool x.1) ∧ W.cell? ⟨w.heap.size, 1, none⟩ = some (.slice Ax x.2.length cx) ∧ Hid (Chg [] W0 W))
            ((refine KL.out _ ?_; (first | exact HC2.out | exact HC1.out | exact HCr.out | exact HC0.out | exact HC2.out.drew1 | exact HC1.out.drew1 | exact HCr.out.drew1 | exact HC0.out.drew1 | exact HC2.out.trans (Chg.of_below (below_al (Below.refl _ _) _)) | exact HC1.out.trans (Chg.of_below (below_al (Below.refl _ _) _)) | exact HCr.out.trans (Chg.of_below (below_al (Below.refl _ _) _)) | exact HC0.out.trans (Chg.of_below (below_al (Below.refl _ _) _)) | exact (Chg.setNew HC2.out (by first | exact HC2.out.size | exact HC1.out.size | exact HCr.out.size | exact HC0.out.size) _) | exact (Chg.setNew (Chg.setNew HC2.out (by first | exact HC2.out.size | exact HC1.out.size | exact HCr.out.size | exact HC0.out.size) _) (by first | exact HC2.out.size | exact HC1.out.size | exact HCr.out.size | exact HC0.out.size) _) | exact (Chg.setNew (Chg.setNew (Chg.setNew HC2.out (by first | exact HC2.out.size | exact HC1.out.size | exact HCr.out.size | exact HC0.out.size) _) (by first | exact HC2.out.size | exact HC1.out.size | exact HCr.out.size | exact HC0.out.size) _) (by first | exact HC2.out.size | exact HC1.out.size | exact HCr.out.size | exact HC0.out.size) _) | fail)))
            (first
              | (go_at_call 120; (have hBB := (‹_ ∧ _ ∧ Hid (Chg [] W0 _)›).2.2); (with_reducible refine ((implIntOf_any n _ (by omega) (by omega)).mono fun _ _ h => NewS.newV h).mono ?_); rintro e w1 ⟨ui, Si, rfl, oi, li, b1⟩; have HC1 := Lib.hid (hBB.out.trans (Chg.of_below b1)); obtain ⟨Ai, ci, rfl⟩ := ownS_form oi.here; (first | (have early1 : At [W0.heap.size] (BoxAt W0.heap.size #[.bool false, .slice none 0 0, .slice none 0 0] 34) w1 := At.below (box_new W0.drew _ _) b1) | (have early1 := At.below (box_new _ #[.bool false, .slice none 0 0, .slice none 0 0] 34) b1) | (have early1 := At.below early0 b1) | skip); have HBZ1 := Lib.hid hBB.out.size; clear hBB)
              | (go_at_call 100; (have hBB := (‹_ ∧ _ ∧ Hid (Chg [] W0 _)›).2.2); (with_reducible refine ((implRatMake_any _ _ x (ofZ n) _ hz (szS_50 (ofZ_ok n)) (OSx.out _ (BBF.out _ hBB.out)) (At.here (by first | exact oi | exact At.below oi (below_al (Below.refl _ _) _) | exact At.below (At.below oi (below_al (Below.refl _ _) _)) (below_al (Below.refl _ _) _) | exact At.move oi (fun _ _ => rfl) (Nat.le_refl _))) (HS.out.below (BBF.out _ hBB.out))).mono fun _ _ h => postQb_is EQ.out h).mono ?_); rintro e w2 ⟨uf, Sf, rfl, of, lf, b2⟩; have HC2 := Lib.hid (hBB.out.trans (Chg.of_below b2)); (have oi_2 := At.below (by first | exact oi | exact At.below oi (below_al (Below.refl _ _) _) | exact At.below (At.below oi (below_al (Below.refl _ _) _)) (below_al (Below.refl _ _) _) | exact At.move oi (fun _ _ => rfl) (Nat.le_refl _)) b2); obtain ⟨Af, cf, Bf, df, rfl⟩ := ownQ_form of.here; (first | have hbxg := At.below_lt (box_new _ #[.bool false, .slice none 0 0, .slice none 0 0] 34) b2 | have hbxg := At.below_lt early1 b2 | skip); (try (have hbxf := hbxg.1; have HGB := Lib.hid hbxg.2; clear hbxg)); (try (have cz0 := hbxf.here.cell 0 _ rfl; have fz0 := Lib.frozen_of_heap hbxf.here 0; have cz1 := hbxf.here.cell 1 _ rfl; have fz1 := Lib.frozen_of_heap hbxf.here 1; have cz2 := hbxf.here.cell 2 _ rfl; have fz2 := Lib.frozen_of_heap hbxf.here 2)); have HBZ2 := Lib.hid hBB.out.size; clear hBB))
          all_goals (go_wp2_with fail; go_meet; first | exact ⟨newLocV_last of lf HBZ2.out (below_of_chg HC2.out), rfl⟩ | exact ⟨newLocV_early3 hbxf.here of lf (by first | exact HC1.out.size | exact HCr.out.size | exact HC0.out.size) HGB.out (below_of_chg HC2.out), rfl⟩)
        rename World => w1
        clear kx_c0 kx_c1
        obtain ⟨⟨gy, csy, Sy, rfl, ky, oy, ny, ly, b1⟩, rfl⟩ := hcut
        obtain ⟨Ay, cy, By, dy, ey⟩ := ownQ_form oy.here
        injection ey with ey
        subst ey
        have bb1 := Below.next bb0 b1
        replace kx := kx.below b1
        replace ko := ko.below b1
        have ky_c0 := ky.here.cell 0 _ rfl
        have ky_c1 := ky.here.cell 1 _ rfl
        have ky_c2 := ky.here.cell 2 _ rfl
        go_wp2_with fail
        clear ky_c0 ky_c1 ky_c2
        refine ((implRatRound_any _ Y m _ zY oy.here (HS.out.below bb1)).mono fun _ _ h => postSb_is EX.out h).mono ?_
        rintro e w2 ⟨ut, St, rfl, ot, lt, b2⟩
        obtain ⟨At_, ct, rfl⟩ := ownS_form ot.here
        have bb2 := Below.next bb1 b2
        replace kx := kx.below b2
        replace ko := ko.below b2
        replace ky := ky.below b2
        replace oy := oy.below b2
        have kt := box_new (w2) #[.bool X.1, .slice At_ X.2.length ct] 28
        have alt := below_al (Below.refl (w2).heap.size (w2)) (.cells #[.bool X.1, .slice At_ X.2.length ct] 28)
        have bbt := Below.next bb2 alt
        replace kx := kx.below alt
        replace ko := ko.below alt
        replace ky := ky.below alt
        replace oy := oy.below alt
        replace ot := ot.below alt
        clear ky oy kx
        obtain ⟨Wt, hWt⟩ : ∃ Wt, Wt = w2.alloc (.cells #[.bool X.1, .slice At_ X.2.length ct] 28) := ⟨_, rfl⟩
        rw [← hWt] at ot ko kt bbt alt
        have HWT := Lib.hid hWt
        clear hWt
        have cT0 := kt.here.cell 0 _ rfl
        have cT1 := kt.here.cell 1 _ rfl
        rw [HWT.out] at cT0 cT1
        go_wp2_with fail
        rw [← HWT.out]
        clear cT0 cT1
        have hko := ko.lt (w.heap.size + 1) (by simp)
        have hk2 := HKO.out
        have hb1 := b1.size
        have hb2 := b2.size
        have HOT := Lib.hid (show ∀ W, Below Wt.heap.size Wt W → OwnS (.agg #[.bool X.1, .slice At_ X.2.length ct]) X W from fun W hb => OwnS.below ot.here hb)
        have HC0 := Lib.hid (show Chg [w.heap.size + 1] Wt Wt.drew from (Chg.refl _ _).drew1)
        have HCr := Lib.hid (show Chg [w.heap.size + 1] Wt Wt from Chg.refl _ _)
        have KL := Lib.hid (show ∀ W, Chg [w.heap.size + 1] Wt W → W.cell? ⟨w2.heap.size, 0, none⟩ = some (.bool X.1) ∧ W.cell? ⟨w2.heap.size, 1, none⟩ = some (.slice At_ X.2.length ct) ∧ Hid (Chg [w.heap.size + 1] Wt W) from fun W hc => ⟨(kt.chg hc (fun i hi hm => by simp at hi hm; omega)).here.cell 0 _ rfl, (kt.chg hc (fun i hi hm => by simp at hi hm; omega)).here.cell 1 _ rfl, Lib.hid hc⟩)
        have BBF := Lib.hid (show ∀ W, Chg [w.heap.size + 1] Wt W → Below w.heap.size w W from fun W hc => below_chg bbt hc bbt.size (fun i hi => by simp at hi; omega))
        go_region_held3 (fun W => W.cell? ⟨w2.heap.size, 0, none⟩ = some (.bool X.1) ∧ W.cell? ⟨w2.heap.size, 1, none⟩ = some (.slice At_ X.2.length ct) ∧ Hid (Chg [w.heap.size + 1] Wt W))
          ((refine KL.out _ ?_; (first | exact HC4.out | exact HC3.out | exact HCr.out | exact HC0.out | exact HC4.out.drew1 | exact HC3.out.drew1 | exact HCr.out.drew1 | exact HC0.out.drew1 | exact HC4.out.trans (Chg.of_below (below_al (Below.refl _ _) _)) | exact HC3.out.trans (Chg.of_below (below_al (Below.refl _ _) _)) | exact HCr.out.trans (Chg.of_below (below_al (Below.refl _ _) _)) | exact HC0.out.trans (Chg.of_below (below_al (Below.refl _ _) _)) | exact (Chg.setCell HC4.out (by simp) _) | exact (Chg.setCell (Chg.setCell HC4.out (by simp) _) (by simp) _) | fail)))
          (first
            | (go_at_call 120; (have hBB := (‹_ ∧ _ ∧ Hid (Chg [w.heap.size + 1] Wt _)›).2.2); (with_reducible refine ((implIntOf_any n _ (by omega) (by omega)).mono fun _ _ h => NewS.newV h).mono ?_); rintro e w3 ⟨ui, Si, rfl, oi, li, b3⟩; have HC3 := Lib.hid (hBB.out.trans (Chg.of_below b3)); (have ko_3 := At.below (by first | exact ko | exact At.below ko (below_al (Below.refl _ _) _) | exact At.below (At.below ko (below_al (Below.refl _ _) _)) (below_al (Below.refl _ _) _) | exact At.move ko (fun _ _ => rfl) (Nat.le_refl _)) b3); (have ot_3 := At.below (by first | exact ot | exact At.below ot (below_al (Below.refl _ _) _) | exact At.below (At.below ot (below_al (Below.refl _ _) _)) (below_al (Below.refl _ _) _) | exact At.move ot (fun _ _ => rfl) (Nat.le_refl _)) b3); obtain ⟨Ai, ci, rfl⟩ := ownS_form oi.here; have HBZ3 := Lib.hid hBB.out.size; clear hBB)
            | (go_at_call 75; (have hBB := (‹_ ∧ _ ∧ Hid (Chg [w.heap.size + 1] Wt _)›).2.2); (with_reducible refine ((implIntMul_any _ _ X (ofZ n) _ zX (by have := ofZ_len n; omega) (At.here (by first | exact ot_3 | exact At.below ot_3 (below_al (Below.refl _ _) _) | exact At.below (At.below ot_3 (below_al (Below.refl _ _) _)) (below_al (Below.refl _ _) _) | exact At.move ot_3 (fun _ _ => rfl) (Nat.le_refl _))) (At.here (by first | exact oi | exact At.below oi (below_al (Below.refl _ _) _) | exact At.below (At.below oi (below_al (Below.refl _ _) _)) (below_al (Below.refl _ _) _) | exact At.move oi (fun _ _ => rfl) (Nat.le_refl _)))).mono fun _ _ h => NewS.newV h).mono ?_); rintro e w4 ⟨uf, Sf, rfl, of, lf, b4⟩; have HC4 := Lib.hid (hBB.out.trans (Chg.of_below b4)); (have ko_4 := At.below (by first | exact ko_3 | exact At.below ko_3 (below_al (Below.refl _ _) _) | exact At.below (At.below ko_3 (below_al (Below.refl _ _) _)) (below_al (Below.refl _ _) _) | exact At.move ko_3 (fun _ _ => rfl) (Nat.le_refl _)) b4); (have ot_4 := At.below (by first | exact ot_3 | exact At.below ot_3 (below_al (Below.refl _ _) _) | exact At.below (At.below ot_3 (below_al (Below.refl _ _) _)) (below_al (Below.refl _ _) _) | exact At.move ot_3 (fun _ _ => rfl) (Nat.le_refl _)) b4); (have oi_4 := At.below (by first | exact oi | exact At.below oi (below_al (Below.refl _ _) _) | exact At.below (At.below oi (below_al (Below.refl _ _) _)) (below_al (Below.refl _ _) _) | exact At.move oi (fun _ _ => rfl) (Nat.le_refl _)) b4); obtain ⟨Af, cf, rfl⟩ := ownS_form of.here; have cz0 := ko_4.here.cell 0 _ rfl; have fz0 := Lib.frozen_of_heap ko_4.here 0; have cz1 := ko_4.here.cell 1 _ rfl; have fz1 := Lib.frozen_of_heap ko_4.here 1; have HBZ4 := Lib.hid hBB.out.size; clear hBB))
        have bb4 := BBF.out _ HC4.out
        replace kt := kt.chg HC4.out (fun i hi hm => by simp at hi hm; omega)
        replace ko := ko_4
        have ot := ot_4
        have oi := oi_4
        have HW := Lib.hid (newSb_at (b := bx) (r := w.heap.size + 1) of lf (by have := HBZ4.out; omega) (by omega) bb4)
        clear of ko kt ot oi
        go_wp2
        refine bodyPost_ret (v := .tuple #[.agg #[.bool _, .slice Af _ cf], .bool bx]) (by simp [results, Tryz.results49, go_sem, cz0, cz1]; exact ⟨rfl, rfl⟩) rfl ?_
        rw [HV.out.1, HV.out.2]
        exact HW.out
      · have h2n : 1000000 < n := by omega
        obtain ⟨s1, s2⟩ := step_no (x := x) (n := n) (m := m) (fun h => by have := h.2.1; have := h.2.2.1; omega)
        have HV := Lib.hid (show stepS x n m = zeroS ∧ stepB x n m = false from ⟨s2, s1⟩)
        clear s1 s2
        clear hl h1 h2
        have cz0 := ko.here.cell 0 _ rfl
        have fz0 := Lib.frozen_of_heap ko.here 0
        have cz1 := ko.here.cell 1 _ rfl
        have fz1 := Lib.frozen_of_heap ko.here 1
        go_enter Tryz.func49, Tryz.ntmps49
        have kx_c0 := kx.here.cell 0 _ rfl
        have kx_c1 := kx.here.cell 1 _ rfl
        go_wp2
        refine bodyPost_ret (v := .tuple #[.agg #[.bool false, .slice none 0 0], .bool false]) (by simp [results, Tryz.results49, go_sem, cz0, cz1]) rfl ?_
        rw [HV.out.1, HV.out.2]
        first | exact newSb_zero _ bb0 | exact newSb_zero _ (below_set2 bb0 (by omega))
    · have h1n : n < 1 := by omega
      obtain ⟨s1, s2⟩ := step_no (x := x) (n := n) (m := m) (fun h => by have := h.2.1; have := h.2.2.1; omega)
      have HV := Lib.hid (show stepS x n m = zeroS ∧ stepB x n m = false from ⟨s2, s1⟩)
      clear s1 s2
      clear hl h1
      have cz0 := ko.here.cell 0 _ rfl
      have fz0 := Lib.frozen_of_heap ko.here 0
      have cz1 := ko.here.cell 1 _ rfl
      have fz1 := Lib.frozen_of_heap ko.here 1
      go_enter Tryz.func49, Tryz.ntmps49
      have kx_c0 := kx.here.cell 0 _ rfl
      have kx_c1 := kx.here.cell 1 _ rfl
      go_wp2
      refine bodyPost_ret (v := .tuple #[.agg #[.bool false, .slice none 0 0], .bool false]) (by simp [results, Tryz.results49, go_sem, cz0, cz1]) rfl ?_
      rw [HV.out.1, HV.out.2]
      first | exact newSb_zero _ bb0 | exact newSb_zero _ (below_set2 bb0 (by omega))
  · have hl18 : (18 : Int) < (x.2.length : Int) := by omega
    obtain ⟨s1, s2⟩ := step_no (x := x) (n := n) (m := m) (fun h => by have := h.2.1; have := h.2.2.1; omega)
    have HV := Lib.hid (show stepS x n m = zeroS ∧ stepB x n m = false from ⟨s2, s1⟩)
    clear s1 s2
    clear hl
    have cz0 := ko.here.cell 0 _ rfl
    have fz0 := Lib.frozen_of_heap ko.here 0
    have cz1 := ko.here.cell 1 _ rfl
    have fz1 := Lib.frozen_of_heap ko.here 1
    go_enter Tryz.func49, Tryz.ntmps49
    have kx_c0 := kx.here.cell 0 _ rfl
    have kx_c1 := kx.here.cell 1 _ rfl
    go_wp2
    refine bodyPost_ret (v := .tuple #[.agg #[.bool false, .slice none 0 0], .bool false]) (by simp [results, Tryz.results49, go_sem, cz0, cz1]) rfl ?_
    rw [HV.out.1, HV.out.2]
    first | exact newSb_zero _ bb0 | exact newSb_zero _ (below_set2 bb0 (by omega))
end Go.Proofs.YthfkdofnoomhaaaGreatDoor

namespace Go.Proofs.YthfkdofnoomhaaaGreatDoor
open Go.RowKit

/-- block g is a cursor over the slice v of n bytes -/
def Cur (w : World) (g : Nat) (v : Value) (n : Nat) : Prop :=
  ∃ i h : Int, 0 ≤ i ∧ i ≤ n ∧ -9223372036854775808 ≤ h ∧ h ≤ 9223372036854775807 ∧ w.heap[g]? = some (.cells #[v, .int .i64 i, .int .i64 h] 151 (0, 0))
/-- bytes as cells -/
def bytesV (bs : List Nat) : List Value := bs.map fun b : Nat => Value.int .u8 (b : Int)

theorem cell_in {w : World} {g : Nat} {cs : Array Value} {t : TypeId} (h : w.heap[g]? = some (.cells cs t (0, 0))) (j : Nat) (u : Value) (hj : cs[j]? = some u) : w.cell? ⟨g, j, none⟩ = some u := by
  rw [cell_of_row w g j cs t (0, 0) h]
  exact hj
theorem free_in {w : World} {g : Nat} {cs : Array Value} {t : TypeId} (h : w.heap[g]? = some (.cells cs t (0, 0))) (j : Nat) : w.frozen? ⟨g, j, none⟩ = false := by
  simp [World.frozen?, h]
theorem put_in {w : World} {g : Nat} {cs : Array Value} {t : TypeId} (h : w.heap[g]? = some (.cells cs t (0, 0))) (j : Nat) (u : Value) : (w.setCell ⟨g, j, none⟩ u).heap[g]? = some (.cells (cs.setIfInBounds j u) t (0, 0)) := by
  simp [World.setCell, Array.getElem?_modify, h]
theorem put_grown (w : World) (g j : Nat) (u : Value) : w.grownBy (w.setCell ⟨g, j, none⟩ u) (some g) :=
  ⟨rfl, rfl, rfl, by simp [World.setCell], fun k _ hne => Below.heap_setCell w _ u k (fun e => hne (by rw [e]))⟩
theorem grown_drewN {a w : World} {row : Option Nat} (h : a.grownBy w row) (n : Nat) : a.grownBy (w.drewN n) row := ⟨h.os, h.tape, h.output, h.size, h.block⟩

theorem and255 (x : Int) : 0 ≤ bits .and .i64 x 255 ∧ bits .and .i64 x 255 ≤ 255 := by
  have h : (BitVec.ofInt 64 x &&& BitVec.ofInt 64 255).toNat ≤ 255 := by
    rw [BitVec.toNat_and]
    exact Nat.and_le_right
  have e : bits .and .i64 x 255 = IntKind.i64.wrap ((BitVec.ofInt 64 x &&& BitVec.ofInt 64 255).toNat : Int) := rfl
  rw [e, IntKind.wrap_i64]
  omega

/-- what a draw of one byte comes to -/
def BytePost (g : Nat) (v : Value) (n : Nat) (w : World) (e : Ending) (w' : World) : Prop :=
  ∃ x : Int, 0 ≤ x ∧ x ≤ 255 ∧ e = .returned (.int .i64 x) ∧ Cur w' g v n ∧ w.grownBy w' (some g)

set_option maxHeartbeats 1000000 in
set_option maxRecDepth 100000 in
theorem l01Byte_any (g lo hi : Nat) (v : Value) (bs : List Nat) (w : World) (hb : ∀ b ∈ bs, b < 256) (hn : bs.length ≤ 1048576) (hc : Cur w g v bs.length) (hr : Row w lo hi v (bytesV bs)) (hg : hi ≤ g) :
    Calls Tryz.prog 176 #[.pointer (some ⟨g, 0, none⟩)] w (BytePost g v bs.length w) := by
  obtain ⟨i, h, hi0, hin, hh0, hh1, hbl⟩ := hc
  obtain ⟨A, c, rfl, hA⟩ := hr
  have hlen : (bytesV bs).length = bs.length := by simp [bytesV]
  have HA := Lib.hid hA
  clear hA
  rw [hlen] at hbl ⊢
  have c0 := cell_in hbl 0 _ rfl
  have c1 := cell_in hbl 1 _ rfl
  have c2 := cell_in hbl 2 _ rfl
  have f1 := free_in hbl 1
  have f2 := free_in hbl 2
  have HBL := Lib.hid hbl
  clear hbl
  obtain ⟨h2, Hh2⟩ : ∃ h2 : Int, Hid (wrap64 (wrap64 (h * 6364136223846793005) + 1442695040888963407) = h2 ∧ -9223372036854775808 ≤ h2 ∧ h2 ≤ 9223372036854775807) := ⟨_, Lib.hid ⟨rfl, by unfold wrap64; omega, by unfold wrap64; omega⟩⟩
  have hbl1 := put_in HBL.out 2 (.int .i64 h2)
  have hgr1 := put_grown w g 2 (.int .i64 h2)
  go_enter Tryz.func176, Tryz.ntmps176
  go_wp2
  rw [Hh2.out.1]
  obtain ⟨_, hl0, hl1⟩ := Hh2.out
  clear Hh2 c0 c1 c2 f1 f2
  generalize w.setCell ⟨g, 2, none⟩ (.int .i64 h2) = w1 at *
  have c0 : w1.cell? ⟨g, 0, none⟩ = some (.slice A bs.length c) := cell_in hbl1 0 _ rfl
  have c1 : w1.cell? ⟨g, 1, none⟩ = some (.int .i64 i) := cell_in hbl1 1 _ rfl
  have c2 : w1.cell? ⟨g, 2, none⟩ = some (.int .i64 h2) := cell_in hbl1 2 _ rfl
  have f1 := free_in hbl1 1
  have HBL1 := Lib.hid hbl1
  clear hbl1
  go_quiet (fail)
  go_wp2
  have hx := and255 (bits .xor .i64 (h2 / 8589934592) (h2 / 35184372088832))
  generalize bits .and .i64 (bits .xor .i64 (h2 / 8589934592) (h2 / 35184372088832)) 255 = x at *
  by_cases hlt : i < bs.length
  · obtain ⟨k, rfl⟩ := Int.eq_ofNat_of_zero_le hi0
    have hkl : k < bs.length := by omega
    obtain ⟨a, rfl, _, hab, hca⟩ := HA.out k (.int .u8 (bs[k] : Nat)) (by simp [bytesV, hkl])
    have hbk := hb bs[k] (List.getElem_mem hkl)
    have hca1 : w1.cell? (a.add k) = some (.int .u8 (bs[k] : Nat)) := by
      rw [← hca]
      have hne : some (a.add k).block ≠ some g := by rw [block_add]; intro e; injection e with e; omega
      exact World.cell?_of_block (hgr1.block _ (cell_lt hca) hne)
    clear hca hi0
    have HB := Lib.hid hb
    clear hb
    go_quiet (fail)
    go_wp2
    go_quiet (fail)
    go_wp2
    go_ret
    have hx2 := and255 (x + (bs[k] : Nat))
    exact ⟨_, hx2.1, hx2.2, rfl, ⟨(k : Int) + 1, h2, by omega, by omega, hl0, hl1, put_in HBL1.out 1 _⟩, grown_drewN (grown_trans hgr1 (put_grown w1 g 1 _)) _⟩
  · have hlt' : decide (i < bs.length) = false := decide_eq_false hlt
    have HB := Lib.hid hb
    clear hb
    go_quiet (fail)
    go_wp2
    go_ret
    exact ⟨x, hx.1, hx.2, rfl, ⟨i, h2, hi0, hin, hl0, hl1, HBL1.out⟩, grown_drewN hgr1 _⟩

theorem Row.far {w w' : World} {lo hi g : Nat} {v : Value} {xs : List Value} (h : Row w lo hi v xs) (hg : w.grownBy w' (some g)) (hlt : hi ≤ g) : Row w' lo hi v xs := by
  obtain ⟨A, c, rfl, h⟩ := h
  refine ⟨A, c, rfl, fun j u hj => ?_⟩
  obtain ⟨a, e, h1, h2, h3⟩ := h j u hj
  refine ⟨a, e, h1, h2, ?_⟩
  rw [← h3]
  have hne : some (a.add j).block ≠ some g := by rw [block_add]; intro e; injection e with e; omega
  exact World.cell?_of_block (hg.block _ (cell_lt h3) hne)

/-- what a draw below n comes to -/
def BelowPost (m : Int) (g : Nat) (v : Value) (n : Nat) (w : World) (e : Ending) (w' : World) : Prop :=
  ∃ x : Int, 0 ≤ x ∧ x < m ∧ e = .returned (.int .i64 x) ∧ Cur w' g v n ∧ w.grownBy w' (some g)

set_option maxHeartbeats 1000000 in
set_option maxRecDepth 100000 in
theorem l01Below_any (m : Int) (g lo hi : Nat) (v : Value) (bs : List Nat) (w : World) (hm : 0 < m) (hm2 : m ≤ 2147483648) (hb : ∀ b ∈ bs, b < 256) (hn : bs.length ≤ 1048576) (hc : Cur w g v bs.length) (hr : Row w lo hi v (bytesV bs)) (hg : hi ≤ g) :
    Calls Tryz.prog 122 #[.pointer (some ⟨g, 0, none⟩), .int .i64 m] w (BelowPost m g v bs.length w) := by
  have HB := Lib.hid hb
  clear hb
  have hmz : (m == 0) = false := by rw [beq_eq_false_iff_ne]; omega
  by_cases hs : m ≤ 256
  · go_enter Tryz.func122, Tryz.ntmps122
    go_wp2_with fail
    refine (l01Byte_any g lo hi v bs _ HB.out hn hc hr hg).mono ?_
    rintro e w1 ⟨x, hx0, hx1, rfl, hc1, hg1⟩
    go_wp2
    go_ret
    exact ⟨x % m, Int.emod_nonneg _ (by omega), Int.emod_lt_of_pos _ hm, rfl, hc1, hg1⟩
  · go_enter Tryz.func122, Tryz.ntmps122
    go_wp2_with fail
    refine (l01Byte_any g lo hi v bs _ HB.out hn hc hr hg).mono ?_
    rintro e w1 ⟨x1, hx0, hx1, rfl, hc1, hg1⟩
    have hr1 := hr.far hg1 hg
    go_wp2_with fail
    refine (l01Byte_any g lo hi v bs _ HB.out hn hc1 hr1 hg).mono ?_
    rintro e w2 ⟨x2, hy0, hy1, rfl, hc2, hg2⟩
    have hr2 := hr1.far hg2 hg
    go_wp2_with fail
    refine (l01Byte_any g lo hi v bs _ HB.out hn hc2 hr2 hg).mono ?_
    rintro e w3 ⟨x3, hz0, hz1, rfl, hc3, hg3⟩
    have hr3 := hr2.far hg3 hg
    go_wp2_with fail
    refine (l01Byte_any g lo hi v bs _ HB.out hn hc3 hr3 hg).mono ?_
    rintro e w4 ⟨x4, hq0, hq1, rfl, hc4, hg4⟩
    go_wp2
    go_ret
    exact ⟨(x1 * 16777216 + x2 * 65536 + x3 * 256 + x4) % m, Int.emod_nonneg _ (by omega), Int.emod_lt_of_pos _ hm, rfl, hc4, grown_trans (grown_trans (grown_trans hg1 hg2) hg3) hg4⟩

/-- what a new cursor is -/
def NewPost (v : Value) (n : Nat) (w : World) (e : Ending) (w' : World) : Prop :=
  ∃ g : Nat, w.heap.size ≤ g ∧ e = .returned (.pointer (some ⟨g, 0, none⟩)) ∧ Cur w' g v n ∧ Below w.heap.size w w'
theorem andMask (x : Int) : 0 ≤ bits .and .i64 x 1073741823 ∧ bits .and .i64 x 1073741823 ≤ 1073741823 := by
  have h : (BitVec.ofInt 64 x &&& BitVec.ofInt 64 1073741823).toNat ≤ 1073741823 := by
    rw [BitVec.toNat_and]
    exact Nat.and_le_right
  have e : bits .and .i64 x 1073741823 = IntKind.i64.wrap ((BitVec.ofInt 64 x &&& BitVec.ofInt 64 1073741823).toNat : Int) := rfl
  rw [e, IntKind.wrap_i64]
  omega

set_option maxRecDepth 100000 in
set_option maxHeartbeats 1000000 in
set_option maxRecDepth 100000 in
theorem l01New_any (lo hi : Nat) (v : Value) (bs : List Nat) (w : World) (hb : ∀ b ∈ bs, b < 256) (hn : bs.length ≤ 1048576) (hr : Row w lo hi v (bytesV bs)) :
    Calls Tryz.prog 88 #[v] w (NewPost v bs.length w) := by
  obtain ⟨A, c, rfl, hA⟩ := hr
  have hlen : (bytesV bs).length = bs.length := by simp [bytesV]
  rw [hlen]
  have HA := Lib.hid hA
  have HB := Lib.hid hb
  clear hA hb hlen
  go_enter Tryz.func88, Tryz.ntmps88
  go_wp2
  go_loop [3, 4] (fun a i => ∃ (k : Nat) (h : Int), k ≤ bs.length ∧ i = .int .i64 k ∧ a = .int .i64 h ∧ 0 ≤ h ∧ h ≤ 1073741823) (fun _ i => bs.length - (intOf i).toNat)
  case atStart => exact ⟨0, _, Nat.zero_le _, rfl, rfl, by omega, by omega⟩
  case round =>
    obtain ⟨k, h, hk, rfl, rfl, hh0, hh1⟩ := hrel
    by_cases hlt : k < bs.length ∧ k < 4000
    · obtain ⟨a, rfl, _, hab, hca⟩ := HA.out k (.int .u8 (bs[k]'hlt.1 : Nat)) (by simp [bytesV, hlt.1])
      have hbk := HB.out _ (List.getElem_mem hlt.1)
      obtain ⟨hl1, hl2⟩ := hlt
      go_wp2
      have hm := andMask (h * 41 + (bs[k] : Nat) + 7)
      go_round
      case rel => exact ⟨k + 1, _, by omega, by go_num, rfl, hm.1, hm.2⟩
      case measure => simp [intOf]; omega
    · by_cases hl1 : k < bs.length
      · have hl2 : ¬ k < 4000 := fun e => hlt ⟨hl1, e⟩
        clear hlt
        go_wp2
        go_ret
        exact ⟨w.heap.size, Nat.le_refl _, rfl, ⟨0, h, by omega, by omega, by omega, by omega, heap_alloc_new w _⟩, (Below.refl _ _).alloc (Nat.le_refl _) _⟩
      · clear hlt
        go_wp2
        go_ret
        exact ⟨w.heap.size, Nat.le_refl _, rfl, ⟨0, h, by omega, by omega, by omega, by omega, heap_alloc_new w _⟩, (Below.refl _ _).alloc (Nat.le_refl _) _⟩

/-- a number that a law draws -/
def NumPost (m : Int) (w : World) (e : Ending) (w' : World) : Prop := ∃ x : Int, 0 ≤ x ∧ x < m ∧ e = .returned (.int .i64 x) ∧ Below w.heap.size w w'

end Go.Proofs.YthfkdofnoomhaaaGreatDoor

namespace Go.Proofs.YthfkdofnoomhaaaGreatDoor
open Go.RowKit

theorem Row.away {w w' : World} {lo hi g : Nat} {v : Value} {xs : List Value} (h : Row w lo hi v xs) (hg : w.grownBy w' (some g)) (hd : hi ≤ g ∨ g < lo) : Row w' lo hi v xs := by
  obtain ⟨A, c, rfl, h⟩ := h
  refine ⟨A, c, rfl, fun j u hj => ?_⟩
  obtain ⟨a, e, h1, h2, h3⟩ := h j u hj
  refine ⟨a, e, h1, h2, ?_⟩
  rw [← h3]
  have hne : some (a.add j).block ≠ some g := by rw [block_add]; intro e; injection e with e; omega
  exact World.cell?_of_block (hg.block _ (cell_lt h3) hne)
theorem Chg.of_cur {w w' : World} {g : Nat} (h : w.grownBy w' (some g)) : Chg [g] w w' := ⟨h.os, h.tape, h.output, h.size, fun i hi hn => h.block i hi (fun e => hn (by injection e with e; simp [e]))⟩
theorem Chg.new_row {T : List Nat} {w a b : World} {row : Option Nat} (h : Chg T w a) (k : a.grownBy b row) (hr : ∀ j, row = some j → w.heap.size ≤ j) : Chg T w b :=
  ⟨k.os.trans h.os, k.tape.trans h.tape, k.output.trans h.output, Nat.le_trans h.size k.size, fun i hi hn => (k.block i (Nat.lt_of_lt_of_le hi h.size) (fun e => by have := hr i e.symm; omega)).trans (h.block i hi hn)⟩
theorem Chg.alloc {T : List Nat} {w a : World} (h : Chg T w a) (o : Obj) : Chg T w (a.alloc o) :=
  h.trans (Chg.of_below ((Below.refl _ _).alloc (Nat.le_refl _) o))
theorem Cur.alloc {w : World} {g : Nat} {v : Value} {n : Nat} (h : Cur w g v n) (o : Obj) : Cur (w.alloc o) g v n := by
  obtain ⟨i, k, h1, h2, h3, h4, hb⟩ := h
  exact ⟨i, k, h1, h2, h3, h4, (Below.heap_alloc _ _ _ (Array.getElem?_eq_some_iff.1 hb).1).trans hb⟩
theorem Cur.grown {w w' : World} {g : Nat} {v : Value} {n : Nat} {row : Option Nat} (h : Cur w g v n) (k : w.grownBy w' row) (hr : row ≠ some g) : Cur w' g v n := by
  obtain ⟨i, x, h1, h2, h3, h4, hb⟩ := h
  exact ⟨i, x, h1, h2, h3, h4, (k.block g (Array.getElem?_eq_some_iff.1 hb).1 (Ne.symm hr)).trans hb⟩
theorem Cur.lt {w : World} {g : Nat} {v : Value} {n : Nat} (h : Cur w g v n) : g < w.heap.size := by
  obtain ⟨i, x, h1, h2, h3, h4, hb⟩ := h
  exact (Array.getElem?_eq_some_iff.1 hb).1

theorem own_far {w w' : World} {base n g : Nat} {e : TypeId} {v : Value} {xs : List Value} (h : w.ownsRow base e 1 v n xs) (hg : w.grownBy w' (some g)) (hlt : g < base) : w'.ownsRow base e 1 v n xs :=
  own_apart h hg (fun a b ha hb => by have := (own_lt h ha).1; injection hb with hb; omega)

/-- what a pick comes to: one of the list -/
def PickPost (xs : List Int) (g : Nat) (v : Value) (n : Nat) (w : World) (e : Ending) (w' : World) : Prop :=
  ∃ x ∈ xs, e = .returned (.int .i64 x) ∧ Cur w' g v n ∧ w.grownBy w' (some g)
set_option maxHeartbeats 400000 in
set_option maxRecDepth 100000 in
theorem l01Pick_any (xs : List Int) (vx : Value) (lx hx g lo hi : Nat) (v : Value) (bs : List Nat) (w : World) (h0 : 0 < xs.length) (h1 : xs.length ≤ 1048576) (hb : ∀ b ∈ bs, b < 256) (hn : bs.length ≤ 1048576) (hc : Cur w g v bs.length) (hr : Row w lo hi v (bytesV bs)) (hg : hi ≤ g)
    (hrx : Row w lx hx vx (intsV xs)) (hd : hx ≤ g ∨ g < lx) :
    Calls Tryz.prog 123 #[.pointer (some ⟨g, 0, none⟩), vx] w (PickPost xs g v bs.length w) := by
  have HB := Lib.hid hb
  have HD := Lib.hid hd
  clear hb hd
  have hrx0 := hrx
  obtain ⟨A, c, rfl, _⟩ := hrx
  rw [intsV_length] at hrx0 ⊢
  go_enter Tryz.func123, Tryz.ntmps123
  go_wp2_with fail
  refine (l01Below_any (xs.length : Int) g lo hi v bs _ (by omega) (by omega) HB.out hn hc hr hg).mono ?_
  rintro e w1 ⟨x, hx0, hx1, rfl, hc1, hg1⟩
  obtain ⟨k, rfl⟩ := Int.eq_ofNat_of_zero_le hx0
  have hk : k < xs.length := by omega
  obtain ⟨A', c', e1, hA⟩ := hrx0.away hg1 HD.out
  injection e1 with e1 _ _
  subst e1
  obtain ⟨p, rfl, _, _, hca⟩ := hA k _ (intsV_at xs k hk)
  have HG := Lib.hid hg1
  clear hA hg1 hrx0
  go_wp2
  go_ret
  exact ⟨xs[k], List.getElem_mem hk, rfl, hc1, HG.out⟩

/-- what a drawn nat is -/
def DrawPost (most : Nat) (g : Nat) (v : Value) (n : Nat) (w : World) (e : Ending) (w' : World) : Prop :=
  ∃ (u : Value) (xs : List Int), e = .returned u ∧ natOkB xs = true ∧ xs.length ≤ most ∧ w'.ownsRow w.heap.size 3 1 u xs.length (intsV xs) ∧ Cur w' g v n ∧ Chg [g] w w'
/-- what is known at the head of l02Nat's loop -/
def DrawRel (most : Nat) (g : Nat) (v : Value) (n : Nat) (w : World) (u i : Value) (wr : World) : Prop :=
  ∃ (m : Nat) (out : List Int), out.length + m ≤ most ∧ i = .int .i64 m ∧ DigN out ∧ wr.ownsRow w.heap.size 3 1 u out.length (intsV out) ∧ Cur wr g v n ∧ Chg [g] w wr
theorem pick_list {x y z : Int} (h1 : 0 ≤ y ∧ y < 1000000000) (h2 : 0 ≤ z ∧ z < 1000000000) (h : x ∈ [0, 1, 2, 999999999, 500000000, y, z]) : 0 ≤ x ∧ x ≤ 999999999 := by
  simp at h
  omega
theorem drawn_trim (xs : List Int) (h : DigN xs) (hl : xs.length ≤ 50) : natOkB (trimL xs) = true ∧ (trimL xs).length ≤ xs.length := by
  have h1 := trimL_length xs
  refine ⟨?_, h1⟩
  rw [trim_limbs xs h] at h1 ⊢
  unfold natOkB
  rw [(all_dig _).2 (limbs_digN _), decide_eq_true (show (limbs (nval xs).toNat).length ≤ 50 by omega), decide_eq_true (limbs_lastN _)]
  rfl

set_option maxHeartbeats 1000000 in
set_option maxRecDepth 100000 in
theorem l02Nat_any (most : Nat) (g lo hi : Nat) (v : Value) (bs : List Nat) (w : World) (hmost : most ≤ 50) (hb : ∀ b ∈ bs, b < 256) (hn : bs.length ≤ 1048576) (hc : Cur w g v bs.length) (hr : Row w lo hi v (bytesV bs)) (hg : hi ≤ g) :
    Calls Tryz.prog 177 #[.pointer (some ⟨g, 0, none⟩), .int .i64 most] w (DrawPost most g v bs.length w) := by
  obtain ⟨i0, hi0, hz0, hz1, hz2⟩ := info_parts intInfo
  have HB := Lib.hid hb
  have hgl := hc.lt
  clear hb
  go_enter Tryz.func177, Tryz.ntmps177
  go_wp2_with fail
  refine (l01Below_any _ g lo hi v bs _ (by omega) (by omega) HB.out hn (hc.alloc _) (hr.below ((Below.refl _ _).alloc (Nat.le_refl _) _) (by omega)) hg).mono ?_
  rintro e w1 ⟨x, hx0, hx1, rfl, hc1, hg1⟩
  have HS : Hid (DrawRel most g v bs.length w (.slice (some ⟨w.heap.size, 0, none⟩) 0 0) (.int .i64 x) w1) := Lib.hid (by
    obtain ⟨k, rfl⟩ := Int.eq_ofNat_of_zero_le hx0
    refine ⟨k, [], by simp; omega, rfl, (fun d hd => by cases hd), ?_, hc1, ((Chg.refl _ _).alloc _).trans (Chg.of_cur hg1)⟩
    exact own_apart (World.ownsRow_made w #[] 0 (Nat.le_refl _) (Nat.zero_le _) rfl) hg1 (fun a b ha hb => by simp [Value.ownBlock] at ha; injection hb with hb; omega))
  clear hc1 hg1
  go_wp2
  go_loopw [5, 6] (fun u i wr => DrawRel most g v bs.length w u i wr) (fun _ i _ => (intOf i).toNat)
  case atStart => exact HS.out
  case round =>
    clear HS
    obtain ⟨m, out, hom, rfl, hd, hown, hcur, hchg⟩ := hrel
    have hsz := hchg.size
    have HD := Lib.hid hd
    clear hd
    by_cases hm : 0 < m
    · have hrow : Row wr lo hi v (bytesV bs) := hr.stays (fun p hp => World.cell?_of_block (hchg.block _ (by omega) (by simp; omega)))
      go_wp2_with fail
      refine (l01Below_any 1000000000 g lo hi v bs _ (by omega) (by omega) HB.out hn hcur hrow hg).mono ?_
      rintro e w2 ⟨y, hy0, hy1, rfl, hc2, hg2⟩
      have hr2 := hrow.far hg2 hg
      go_wp2_with fail
      refine (l01Below_any 1000000000 g lo hi v bs _ (by omega) (by omega) HB.out hn hc2 hr2 hg).mono ?_
      rintro e w3 ⟨z, hz0', hz1', rfl, hc3, hg3⟩
      have hr3 := hr2.far hg3 hg
      have hs2 := hg2.size
      have hs3 := hg3.size
      go_wp2_with fail
      refine (l01Pick_any [0, 1, 2, 999999999, 500000000, y, z] _ w3.heap.size (w3.heap.size + 1) g lo hi v bs _ (by simp) (by simp) HB.out hn (hc3.alloc _) (hr3.below ((Below.refl _ _).alloc (Nat.le_refl _) _) (by have := hc3.lt; omega)) hg (Row.lit w3 #[.int .i64 0, .int .i64 1, .int .i64 2, .int .i64 999999999, .int .i64 500000000, .int .i64 y, .int .i64 z] _) (.inr hc3.lt)).mono ?_
      rintro e w4 ⟨p, hp, rfl, hc4, hg4⟩
      have hpr := pick_list ⟨hy0, hy1⟩ ⟨hz0', hz1'⟩ hp
      have hown4 := own_far (own_alloc (own_far (own_far hown hg2 hgl) hg3 hgl) _) hg4 hgl
      have hchg4 := ((hchg.trans (Chg.of_cur hg2)).trans (Chg.of_cur hg3)).alloc (.cells #[.int .i64 0, .int .i64 1, .int .i64 2, .int .i64 999999999, .int .i64 500000000, .int .i64 y, .int .i64 z] 3) |>.trans (Chg.of_cur hg4)
      have hs4 := hchg4.size
      have HC4 := Lib.hid hc4
      have HH4 := Lib.hid hchg4
      have HP := Lib.hid (show DigN (out ++ [p]) from fun d hd => by
        rcases List.mem_append.1 hd with hd | hd
        · exact HD.out d hd
        · rw [List.mem_singleton.1 hd]; exact hpr)
      have hol : out.length + 1 ≤ 50 := by omega
      clear hown hcur hchg hrow hc2 hg2 hr2 hc3 hg3 hr3 hp hc4 hg4 hchg4 hpr
      go_wp2_with (at_builtin; refine wpList_append_own _ rfl _ _ 22 rfl w.heap.size 3 i0 (.int .i64 0) 1 8 Tryz.underlying22 hi0 hz0 hz1 hz2 rfl (by decide) _ _ _ rfl (own_alloc hown4 _) ⟨w4.heap.size, 0, none⟩ 1 1 [.int .i64 p] rfl rfl (one_new _ _ _) ?c2 ?c3 ?c4 ?c5 ?_)
      case c2 => first | (intro u hu; simp at hu; subst hu; rfl) | rfl
      case c3 => unfold maxLen; omega
      case c4 => omega
      case c5 => simp; omega
      intro v5 w5 hown5 hg5 _
      have HS : Hid (DrawRel most g v bs.length w v5 (.int .i64 ((m : Int) - 1)) w5) := Lib.hid (by
        refine ⟨m - 1, out ++ [p], by simp; omega, by congr 1; omega, HP.out, by simpa [intsV] using hown5, (HC4.out.alloc _).grown hg5 (fun e => by have := (own_lt hown4 e).1; omega), (HH4.out.alloc _).new_row hg5 (fun j hj => (own_lt hown4 hj).1)⟩)
      clear hown4 hown5 hg5
      go_wp2
      exact ⟨HS.out, by simp [intOf]; omega⟩
    · obtain rfl : m = 0 := by omega
      have HT := Lib.hid (drawn_trim out HD.out (by omega))
      go_wp2_with fail
      refine (specTrim_any _ out w.heap.size _ (by omega) hown).mono ?_
      rintro e w2 ⟨rfl, v2, rfl, ho2⟩
      go_wp2
      go_ret
      exact ⟨v2, trimL out, rfl, HT.out.1, by have := HT.out.2; omega, ho2, hcur, hchg⟩

/-- what MakeNats gives -/
def NatsPost (w : World) (e : Ending) (w' : World) : Prop :=
  ∃ (u v : Value) (a b : List Int), e = .returned (.tuple #[u, v]) ∧ natOkB a = true ∧ natOkB b = true ∧ a.length ≤ 5 ∧ b.length ≤ 5 ∧ w'.ownsRow w.heap.size 3 1 u a.length (intsV a) ∧ w'.ownsRow w.heap.size 3 1 v b.length (intsV b) ∧ Below w.heap.size w w'

end Go.Proofs.YthfkdofnoomhaaaGreatDoor

namespace Go.Proofs.YthfkdofnoomhaaaGreatDoor
open Go.RowKit

theorem Cur.below {w w' : World} {g : Nat} {v : Value} {n : Nat} (h : Cur w g v n) (hb : Below w.heap.size w w') : Cur w' g v n := by
  have hlt := h.lt
  obtain ⟨i, k, h1, h2, h3, h4, h5⟩ := h
  exact ⟨i, k, h1, h2, h3, h4, (hb.block g hlt).trans h5⟩
theorem Cur.put {w : World} {g r : Nat} {v : Value} {n j : Nat} {u : Value} (h : Cur w g v n) (hne : g ≠ r) : Cur (w.setCell ⟨r, j, none⟩ u) g v n := by
  obtain ⟨i, k, h1, h2, h3, h4, h5⟩ := h
  exact ⟨i, k, h1, h2, h3, h4, (Below.heap_setCell _ _ _ _ hne).trans h5⟩
theorem Chg.belowNext {T : List Nat} {w w1 w2 : World} (h : Chg T w w1) (hb : Below w1.heap.size w1 w2) : Chg T w w2 := h.trans (Chg.of_below hb)
theorem l01Once_any (m : Int) (g lo hi : Nat) (v : Value) (bs : List Nat) (w : World) (hm : 0 < m) (hm2 : m ≤ 2147483648) (hb : ∀ b ∈ bs, b < 256) (hn : bs.length ≤ 1048576) (hc : Cur w g v bs.length) (hr : Row w lo hi v (bytesV bs)) (hg : hi ≤ g) :
    Calls Tryz.prog 121 #[.pointer (some ⟨g, 0, none⟩), .int .i64 m] w fun e w' => ∃ b : Bool, e = .returned (.bool b) ∧ Cur w' g v bs.length ∧ w.grownBy w' (some g) := by
  have HB := Lib.hid hb
  clear hb
  go_enter Tryz.func121, Tryz.ntmps121
  go_wp2_with fail
  refine (l01Below_any m g lo hi v bs _ hm hm2 HB.out hn hc hr hg).mono ?_
  rintro e w1 ⟨x, _, _, rfl, hc1, hg1⟩
  go_wp2
  go_ret
  exact ⟨_, rfl, hc1, hg1⟩
/-- what a drawn signed number is -/
def DrawSPost (g : Nat) (v : Value) (n : Nat) (w : World) (e : Ending) (w' : World) : Prop :=
  ∃ (u : Value) (x : SI), e = .returned (.agg #[.bool x.1, u]) ∧ okS x = true ∧ x.2.length ≤ 2 ∧ w'.ownsRow w.heap.size 3 1 u x.2.length (intsV x.2) ∧ Cur w' g v n ∧ Chg [g] w w'
theorem drawS_ret {r g n : Nat} {u c0 c1 v : Value} {x : SI} {w W : World} {B : Nat} (hb : BoxAt r #[c0, c1] 28 W) (o : W.ownsRow B 3 1 u x.2.length (intsV x.2)) (hB : w.heap.size ≤ B) (hr : w.heap.size ≤ r) (hg : g < w.heap.size) (ok : okS x = true) (hl : x.2.length ≤ 2) (hc : Cur W g v n) (hW : Chg [g] w W) :
    DrawSPost g v n w (.returned (.agg #[.bool x.1, u])) ((W.setCell ⟨r, 0, none⟩ (.bool x.1)).setCell ⟨r, 1, none⟩ u) := by
  have hne := Lib.ownBlock_ne o hb (by decide)
  refine ⟨u, x, rfl, ok, hl, own_low (own_stays o fun i hi => ?_) hB, (hc.put (by omega)).put (by omega), (hW.setNew (p := ⟨r, 0, none⟩) hr _).setNew (p := ⟨r, 1, none⟩) hr _⟩
  have : i ≠ r := fun e => hne (by rw [hi, e])
  exact (Below.heap_setCell _ _ _ _ this).trans (Below.heap_setCell _ _ _ _ this)
theorem ofZ_small {z : Int} (h0 : -1000 ≤ z) (h1 : z ≤ 1000) : (ofZ z).2.length ≤ 2 := by
  unfold ofZ
  have h := limbs_length_le z.natAbs 1 (by show (z.natAbs : Int) < 1000000000 * 1; omega)
  split
  · exact Nat.le_trans h (by decide)
  · exact Nat.zero_le _
theorem mk_small {n : Bool} {xs : List Int} (ok : natOkB xs = true) (hl : xs.length ≤ 2) : okS (mkS n (trimL xs)) = true ∧ (mkS n (trimL xs)).2.length ≤ 2 := by
  rw [natOk_trim ok]
  have e : mkS n xs = (n && decide (0 < xs.length), xs) := by unfold mkS; rw [capL_short (by omega)]
  rw [e]
  refine ⟨?_, hl⟩
  unfold okS
  rw [ok]
  cases n with
  | false => rfl
  | true => by_cases h : 0 < xs.length <;> simp [h]
set_option maxHeartbeats 1000000 in
set_option maxRecDepth 100000 in
theorem l04Draw_any (g lo hi : Nat) (v : Value) (bs : List Nat) (w : World) (hb : ∀ b ∈ bs, b < 256) (hn : bs.length ≤ 1048576) (hc : Cur w g v bs.length) (hr : Row w lo hi v (bytesV bs)) (hg : hi ≤ g) :
    Calls Tryz.prog 153 #[.pointer (some ⟨g, 0, none⟩), .int .i64 2] w (DrawSPost g v bs.length w) := by
  have HB := Lib.hid hb
  have hgl := hc.lt
  clear hb
  have hbb : Below w.heap.size w (w.alloc (.cells #[.bool false, .slice none 0 0] 28)) := below_al (Below.refl _ _) _
  have kr := box_new w #[.bool false, .slice none 0 0] 28
  obtain ⟨W0, hW0⟩ : ∃ W0, W0 = w.alloc (.cells #[.bool false, .slice none 0 0] 28) := ⟨_, rfl⟩
  rw [← hW0] at hbb kr
  have HW := Lib.hid hW0
  have hc0 := hc.below hbb
  have hr0 := hr.below hbb (by omega)
  have hk0 : Chg [g] w W0 := Chg.of_below hbb
  have hz0 := hbb.size
  clear hW0 hc hr
  go_enter Tryz.func153, Tryz.ntmps153
  go_wp2_with fail
  rw [← HW.out]
  refine (l01Once_any 3 g lo hi v bs _ (by omega) (by omega) HB.out hn hc0 hr0 hg).mono ?_
  rintro e w1 ⟨b, rfl, hc1, hg1⟩
  have hr1 := hr0.far hg1 hg
  have hk1 := hk0.trans (Chg.of_cur hg1)
  have kr1 := kr.chg (Chg.of_cur hg1) (fun i hi hm => by simp at hi hm; omega)
  clear hc0 hr0 hk0 kr hg1
  cases b with
  | true =>
    go_wp2_with fail
    refine (l01Below_any 2001 g lo hi v bs _ (by omega) (by omega) HB.out hn hc1 hr1 hg).mono ?_
    rintro e w2 ⟨x, hx0, hx1, rfl, hc2, hg2⟩
    have hk2 := hk1.trans (Chg.of_cur hg2)
    have kr2 := kr1.chg (Chg.of_cur hg2) (fun i hi hm => by simp at hi hm; omega)
    clear hc1 hr1 hk1 kr1 hg2
    go_wp2_with fail
    refine (specIntOf_any (x - 1000) _ (by omega) (by omega)).mono ?_
    rintro e w3 ⟨u3, rfl, o3, b3⟩
    have HZ := Lib.hid (show okS (ofZ (x - 1000)) = true ∧ (ofZ (x - 1000)).2.length ≤ 2 from ⟨ofZ_ok _, ofZ_small (by omega) (by omega)⟩)
    generalize ofZ (x - 1000) = z at *
    obtain ⟨A3, c3, rfl⟩ := own_len o3
    have kr3 := kr2.below b3
    have hc3 := hc2.below b3
    have hk3 := hk2.belowNext b3
    have cz0 := kr3.here.cell 0 _ rfl
    have cz1 := kr3.here.cell 1 _ rfl
    have fz0 := Lib.frozen_of_heap kr3.here 0
    have fz1 := Lib.frozen_of_heap kr3.here 1
    have HO := Lib.hid o3
    have HK := Lib.hid kr3
    have HC := Lib.hid hc3
    have HG := Lib.hid hk3
    have hz2 := hk2.size
    clear o3 kr3 hc3 hk3 kr2 hc2 hk2 b3
    go_wp2
    refine bodyPost_ret (v := .agg #[.bool _, .slice A3 _ c3]) (by simp [results, Tryz.results153, go_sem, cz0, cz1]; exact ⟨rfl, rfl⟩) rfl ?_
    exact drawS_ret HK.out.here HO.out hz2 (Nat.le_refl _) hgl HZ.out.1 HZ.out.2 HC.out HG.out
  | false =>
    go_wp2_with fail
    refine (l01Once_any 2 g lo hi v bs _ (by omega) (by omega) HB.out hn hc1 hr1 hg).mono ?_
    rintro e w2 ⟨b2, rfl, hc2, hg2⟩
    have hr2 := hr1.far hg2 hg
    have hk2 := hk1.trans (Chg.of_cur hg2)
    have kr2 := kr1.chg (Chg.of_cur hg2) (fun i hi hm => by simp at hi hm; omega)
    clear hc1 hr1 hk1 kr1 hg2
    go_wp2_with fail
    refine (l02Nat_any 2 g lo hi v bs _ (by omega) HB.out hn hc2 hr2 hg).mono ?_
    rintro e w3 ⟨u3, xs, rfl, okx, hlx, o3, hc3, hg3⟩
    have hk3 := hk2.trans hg3
    have kr3 := kr2.chg hg3 (fun i hi hm => by simp at hi hm; omega)
    have HZ := Lib.hid (mk_small (n := b2) okx hlx)
    have hz2 := hk2.size
    clear hc2 hr2 hk2 kr2 hg3 okx
    go_wp2_with fail
    refine (l04Make_any b2 u3 xs _ _ (by omega) o3).mono ?_
    rintro e w4 ⟨u4, rfl, o4, b4⟩
    generalize mkS b2 (trimL xs) = z at *
    obtain ⟨A4, c4, rfl⟩ := own_len o4
    have kr4 := kr3.below b4
    have hc4 := hc3.below b4
    have hk4 := hk3.belowNext b4
    have hz3 := hk3.size
    have cz0 := kr4.here.cell 0 _ rfl
    have cz1 := kr4.here.cell 1 _ rfl
    have fz0 := Lib.frozen_of_heap kr4.here 0
    have fz1 := Lib.frozen_of_heap kr4.here 1
    have HO := Lib.hid o4
    have HK := Lib.hid kr4
    have HC := Lib.hid hc4
    have HG := Lib.hid hk4
    clear o4 kr4 hc4 hk4 kr3 hc3 hk3 b4 o3
    go_wp2
    refine bodyPost_ret (v := .agg #[.bool _, .slice A4 _ c4]) (by simp [results, Tryz.results153, go_sem, cz0, cz1]; exact ⟨rfl, rfl⟩) rfl ?_
    exact drawS_ret HK.out.here HO.out hz3 (Nat.le_refl _) hgl HZ.out.1 HZ.out.2 HC.out HG.out

/-- what a drawn fraction is -/
def DrawQPost (g : Nat) (v : Value) (n : Nat) (w : World) (e : Ending) (w' : World) : Prop :=
  ∃ (u : Value) (q : QI) (S : List Nat), e = .returned u ∧ Bd q 2 ∧ At S (OwnQ u q) w' ∧ Within S w.heap.size w'.heap.size ∧ Cur w' g v n ∧ Chg [g] w w'
theorem makeQ_bd {n : Bool} {xs : List Int} {d : List Int} (h1 : okS (n, xs) = true) (h2 : xs.length ≤ 2) (hd : natOkB d = true) (h3 : d.length ≤ 2) : (makeQ (n, xs) (false, d)).2 = true → Bd (makeQ (n, xs) (false, d)).1 2 := by
  have hx := okS_parts h1
  have l1 := nval_lt xs (natOk_parts hx.1).1
  have l2 := nval_lt d (natOk_parts hd).1
  have m1 := bp_mono h2
  have m2 := bp_mono h3
  have n1 := nval_ok hx.1
  have n2 := nval_ok hd
  have okd : okS (false, d) = true := by unfold okS; rw [hd]; rfl
  have e : makeQ (n, xs) (false, d) = lowQ (n != false) (nval xs).toNat (nval d).toNat := by unfold makeQ; rw [if_pos ⟨h1, okd⟩]
  rw [e]
  intro hok
  by_cases h0 : (nval d).toNat = 0
  · unfold lowQ at hok
    rw [if_neg (fun h => h.1 h0)] at hok
    cases hok
  · exact (low_bd h0 (by omega) (by omega) (by omega)).2.1
theorem oneQ_bd : Bd oneQ 2 := ⟨oneQ_ok, by have := bp_pos 2; show (0 : Int) < _; omega, by show (1 : Int) < bp 2; decide⟩
/-- what is known of memory while a fraction is drawn: the result's box, the numerator's box and limbs, the cursor -/
structure DrawSt (w : World) (g bx lo hi : Nat) (v : Value) (bs : List Nat) (A : Option Addr) (c : Nat) (x : SI) (wx : World) : Prop where
  gl : g < w.heap.size
  hg : hi ≤ g
  bxl : w.heap.size ≤ bx
  kr : At [w.heap.size] (BoxAt w.heap.size #[.bool false, .slice none 0 0, .slice none 0 0] 34) wx
  kx : At [bx] (BoxAt bx #[.bool x.1, .slice A x.2.length c] 28) wx
  al : ∀ i ∈ (Value.slice A x.2.length c).ownBlock.toList, w.heap.size < i
  ox : At (Value.slice A x.2.length c).ownBlock.toList (OwnI (.slice A x.2.length c) x.2) wx
  cur : Cur wx g v bs.length
  row : Row wx lo hi v (bytesV bs)
  chg : Chg [g] w wx
theorem DrawSt.step {w : World} {g bx lo hi : Nat} {v : Value} {bs : List Nat} {A : Option Addr} {c : Nat} {x : SI} {wx w' : World} (h : DrawSt w g bx lo hi v bs A c x wx) (hc : Chg [g] wx w') (hcur : Cur w' g v bs.length) : DrawSt w g bx lo hi v bs A c x w' :=
  have h1 := h.gl
  have h2 := h.hg
  have h3 := h.bxl
  have h4 := h.chg.size
  ⟨h1, h2, h3, h.kr.chg hc (fun i hi hm => by simp at hi hm; omega), h.kx.chg hc (fun i hi hm => by simp at hi hm; omega), h.al, h.ox.chg hc (fun i hi hm => by have := h.al i hi; simp at hm; omega), hcur,
    h.row.stays (fun p hp => World.cell?_of_block (hc.block _ (by omega) (by simp; omega))), h.chg.trans hc⟩
theorem DrawSt.below {w : World} {g bx lo hi : Nat} {v : Value} {bs : List Nat} {A : Option Addr} {c : Nat} {x : SI} {wx w' : World} (h : DrawSt w g bx lo hi v bs A c x wx) (hb : Below wx.heap.size wx w') : DrawSt w g bx lo hi v bs A c x w' :=
  h.step (Chg.of_below hb) (h.cur.below hb)
theorem DrawSt.set {w : World} {g bx lo hi : Nat} {v : Value} {bs : List Nat} {A : Option Addr} {c : Nat} {x : SI} {wx : World} (h : DrawSt w g bx lo hi v bs A c x wx) (p : Addr) (u : Value) (h1 : p.block ≠ bx) (h2 : w.heap.size < p.block) (h3 : ∀ i ∈ (Value.slice A x.2.length c).ownBlock.toList, i ≠ p.block) : DrawSt w g bx lo hi v bs A c x (wx.setCell p u) :=
  have g1 := h.gl
  have g2 := h.hg
  have hc : Chg [p.block] wx (wx.setCell p u) := (Chg.refl _ _).setCell (by simp) _
  ⟨g1, g2, h.bxl, h.kr.chg hc (fun i hi hm => by simp at hi hm; omega), h.kx.chg hc (fun i hi hm => by simp at hi hm; omega), h.al, h.ox.chg hc (fun i hi hm => by have := h3 i hi; simp at hm; omega),
    by obtain ⟨i, k, e1, e2, e3, e4, e5⟩ := h.cur; exact ⟨i, k, e1, e2, e3, e4, (Below.heap_setCell _ _ _ _ (by omega)).trans e5⟩,
    h.row.stays (fun q hq => World.cell?_of_block (Below.heap_setCell _ _ _ _ (by omega))), h.chg.setNew (by omega) _⟩
theorem set_one {g : Nat} {a b c : Value} {T : TypeId} {W : World} (hb : BoxAt g #[a, b] T W) : BoxAt g #[a, c] T (W.setCell ⟨g, 1, none⟩ c) := by
  have hb' : W.heap[g]? = some (.cells #[a, b] T (0, 0)) := hb
  simp [BoxAt, World.setCell, Array.getElem?_modify, hb']
theorem DrawSt.size {w : World} {g bx lo hi : Nat} {v : Value} {bs : List Nat} {A : Option Addr} {c : Nat} {x : SI} {wx : World} (h : DrawSt w g bx lo hi v bs A c x wx) : w.heap.size < wx.heap.size := by
  have := h.kr.lt w.heap.size (by simp)
  exact this
theorem den_one {y : Int} (h0 : 0 ≤ y) (h1 : y < 12) : natOkB (limbs (1 + y).toNat) = true ∧ (limbs (1 + y).toNat).length ≤ 2 := by
  have h : (limbs (1 + y).toNat).length ≤ 1 := limbs_length_le _ 1 (by show ((1 + y).toNat : Int) < 1000000000 * 1; omega)
  exact ⟨limbs_okL _ (by omega), by omega⟩
theorem den_two {xs : List Int} {z : Int} (h : natOkB xs = true) (hl : xs.length ≤ 1) (h0 : 0 ≤ z) (h1 : z < 999) : natOkB (xs ++ [1 + z]) = true ∧ (xs ++ [1 + z]).length ≤ 2 := by
  have hp := natOk_parts h
  refine ⟨?_, by simp; omega⟩
  unfold natOkB
  rw [Bool.and_eq_true, Bool.and_eq_true, decide_eq_true_eq, decide_eq_true_eq, all_dig]
  refine ⟨fun d hd => ?_, by simp; omega, ?_⟩
  · rcases List.mem_append.1 hd with hd | hd
    · exact hp.1 d hd
    · simp at hd; omega
  · rw [List.getLastD_eq_getLast?, List.getLast?_append]
    simp
    omega
theorem small_szS {x : SI} (h : x.2.length ≤ 2) : szS x ≤ 1048576 := by unfold szS szI; omega
theorem drawQ_at {w wx : World} {g n : Nat} {v c0 c1 c2 : Value} {q : QI} {S : List Nat} (hgl : g < w.heap.size) (hq : Bd q 2) (o : At S (OwnQ (.agg #[c0, c1, c2]) q) wx) (l : ∀ i ∈ S, w.heap.size < i ∧ i < wx.heap.size) (hc : Cur wx g v n) (hk : Chg [g] w wx) :
    DrawQPost g v n w (.returned (.agg #[c0, c1, c2])) (((wx.setCell ⟨w.heap.size, 0, none⟩ c0).setCell ⟨w.heap.size, 1, none⟩ c1).setCell ⟨w.heap.size, 2, none⟩ c2) := by
  have hc3 : Chg [w.heap.size] wx (((wx.setCell ⟨w.heap.size, 0, none⟩ c0).setCell ⟨w.heap.size, 1, none⟩ c1).setCell ⟨w.heap.size, 2, none⟩ c2) := (((Chg.refl _ _).setCell (by simp) _).setCell (by simp) _).setCell (by simp) _
  have hz := hc3.size
  have h1 := hk.size
  exact ⟨_, q, S, rfl, hq, o.chg hc3 (fun i hi hm => by have := (l i hi).1; simp at hm; omega), fun i hi => by have := l i hi; exact ⟨by omega, by omega⟩,
    ((hc.put (by omega)).put (by omega)).put (by omega), ((hk.setNew (p := ⟨w.heap.size, 0, none⟩) (Nat.le_refl _) _).setNew (p := ⟨w.heap.size, 1, none⟩) (Nat.le_refl _) _).setNew (p := ⟨w.heap.size, 2, none⟩) (Nat.le_refl _) _⟩
set_option maxHeartbeats 2000000 in
set_option maxRecDepth 100000 in
theorem l05Draw_any (g lo hi : Nat) (v : Value) (bs : List Nat) (w : World) (hb : ∀ b ∈ bs, b < 256) (hn : bs.length ≤ 1048576) (hc : Cur w g v bs.length) (hr : Row w lo hi v (bytesV bs)) (hg : hi ≤ g) :
    Calls Tryz.prog 124 #[.pointer (some ⟨g, 0, none⟩), .int .i64 2] w (DrawQPost g v bs.length w) := by
  obtain ⟨i0, hi0, hz0, hz1, hz2⟩ := info_parts intInfo
  have HB := Lib.hid hb
  have hgl := hc.lt
  clear hb
  have hbb : Below w.heap.size w (w.alloc (.cells #[.bool false, .slice none 0 0, .slice none 0 0] 34)) := below_al (Below.refl _ _) _
  have kr := box_new w #[.bool false, .slice none 0 0, .slice none 0 0] 34
  obtain ⟨W0, hW0⟩ : ∃ W0, W0 = w.alloc (.cells #[.bool false, .slice none 0 0, .slice none 0 0] 34) := ⟨_, rfl⟩
  rw [← hW0] at hbb kr
  have HW := Lib.hid hW0
  have hc0 := hc.below hbb
  have hr0 := hr.below hbb (by omega)
  have hk0 : Chg [g] w W0 := Chg.of_below hbb
  have hz0' := hbb.size
  have hzr := kr.lt w.heap.size (by simp)
  clear hW0 hc hr
  go_enter Tryz.func124, Tryz.ntmps124
  go_wp2_with fail
  rw [← HW.out]
  refine (l04Draw_any g lo hi v bs _ HB.out hn hc0 hr0 hg).mono ?_
  rintro e w1 ⟨u1, x, rfl, okx, hlx, ox, hc1, hg1⟩
  obtain ⟨A1, c1, rfl⟩ := own_len ox
  have HX := Lib.hid (show okS x = true ∧ x.2.length ≤ 2 from ⟨okx, hlx⟩)
  have hr1 : Row w1 lo hi v (bytesV bs) := hr0.stays (fun p hp => World.cell?_of_block (hg1.block _ (by omega) (by simp; omega)))
  have hk1 := hk0.trans hg1
  have kr1 := kr.chg hg1 (fun i hi hm => by simp at hi hm; omega)
  have hx := below_al (Below.refl w1.heap.size w1) (.cells #[.bool x.1, .slice A1 x.2.length c1] 28)
  have kx := box_new w1 #[.bool x.1, .slice A1 x.2.length c1] 28
  obtain ⟨W1, hW1⟩ : ∃ W1, W1 = w1.alloc (.cells #[.bool x.1, .slice A1 x.2.length c1] 28) := ⟨_, rfl⟩
  rw [← hW1] at hx kx
  have HW1 := Lib.hid hW1
  have st0 : DrawSt w g w1.heap.size lo hi v bs A1 c1 x W1 := ⟨hgl, hg, hk1.size, kr1.below hx, kx, fun i hi => by have := own_within ox i hi; omega, (own_at' ox).below hx, hc1.below hx, hr1.below hx (by have := hk1.size; omega), hk1.belowNext hx⟩
  have xl : ∀ i ∈ (Value.slice A1 x.2.length c1).ownBlock.toList, i < w1.heap.size := fun i hi => (own_within ox i hi).2
  have hx1 : w1.heap.size < W1.heap.size := kx.lt w1.heap.size (by simp)
  clear hW1 hc0 hr0 kr hk0 hbb hc1 hr1 hg1 kr1 ox hx hk1 kx okx hlx
  go_wp2_with fail
  rw [← HW1.out]
  refine (l01Below_any 12 g lo hi v bs _ (by omega) (by omega) HB.out hn st0.cur st0.row hg).mono ?_
  rintro e w2 ⟨y, hy0, hy1, rfl, hc2, hg2⟩
  have st2 := st0.step (Chg.of_cur hg2) hc2
  have hx2 := hg2.size
  clear st0 hc2 hg2
  go_wp2_with fail
  refine (specNatOf_any (1 + y) _ (by omega)).mono ?_
  rintro e w3 ⟨ud, rfl, od, b3⟩
  have hD := den_one hy0 hy1
  generalize limbs (1 + y).toNat = D at *
  obtain ⟨Ad, cd, rfl⟩ := own_len od
  have st3 := st2.below b3
  have hz3 := st2.size
  have HD0 := Lib.hid hD
  have hal := below_al (Below.refl w3.heap.size w3) (.cells #[.bool false, .slice Ad D.length cd] 28)
  have kd := box_new w3 #[.bool false, .slice Ad D.length cd] 28
  obtain ⟨W3, hW3⟩ : ∃ W3, W3 = w3.alloc (.cells #[.bool false, .slice Ad D.length cd] 28) := ⟨_, rfl⟩
  rw [← hW3] at hal kd
  have HW3 := Lib.hid hW3
  have st4 := st3.below hal
  have od4 := (own_at' od).below hal
  have dl : ∀ i ∈ (Value.slice Ad D.length cd).ownBlock.toList, w2.heap.size ≤ i := fun i hi => (own_within od i hi).1
  have hz4 := b3.size
  have hz5 : w3.heap.size < W3.heap.size := kd.lt w3.heap.size (by simp)
  clear hW3 st2 st3 od b3 hal hD
  go_wp2_with fail
  rw [← HW3.out]
  refine (l01Once_any 3 g lo hi v bs _ (by omega) (by omega) HB.out hn st4.cur st4.row hg).mono ?_
  rintro e w4 ⟨b, rfl, hc4, hg4⟩
  have hk4 := Chg.of_cur hg4
  have st5 := st4.step hk4 hc4
  have kd5 := kd.chg hk4 (fun i hi hm => by simp at hi hm; omega)
  have od5 := od4.chg hk4 (fun i hi hm => by have := dl i hi; simp at hm; omega)
  have hz6 := hk4.size
  clear st4 kd od4 hk4 hc4 hg4
  cases b with
  | false =>
    have HDD := HD0
    have odd := od5
    have kdd := kd5
    have kd5_0 := kd5.here.cell 0 _ rfl
    have kd5_1 := kd5.here.cell 1 _ rfl
    have kx5_0 := st5.kx.here.cell 0 _ rfl
    have kx5_1 := st5.kx.here.cell 1 _ rfl
    clear od5 kd5
    have hS := st5.size
    go_wp2_with fail
    refine (specRatMake_any _ _ x (false, D) _ (small_szS HX.out.2) (small_szS HDD.out.2) (OwnS.mk (x := x) st5.ox.here) (OwnS.mk (x := (false, D)) odd.here)).mono ?_
    rintro e w8 ⟨u8, S8, rfl, o8, l8, b8⟩
    have HQ := Lib.hid (makeQ_bd (n := x.1) (xs := x.2) HX.out.1 HX.out.2 HDD.out.1 HDD.out.2)
    rw [show ((x.1, x.2) : SI) = x from rfl] at HQ
    obtain ⟨⟨Q, bo⟩, hq⟩ : ∃ Q, makeQ x (false, D) = Q := ⟨_, rfl⟩
    rw [hq] at o8 HQ ⊢
    obtain ⟨A8, c8, B8, d8, rfl⟩ := ownQ_form o8.here
    have st8 := st5.below b8
    have hz8 := b8.size
    clear hq kdd odd st5
    have hal8 := below_al (Below.refl w8.heap.size w8) (.cells #[.bool Q.1.1, .slice A8 Q.1.2.length c8, .slice B8 Q.2.length d8] 34)
    have kq := box_new w8 #[.bool Q.1.1, .slice A8 Q.1.2.length c8, .slice B8 Q.2.length d8] 34
    cases bo with
    | true =>
      have st9 := st8.below hal8
      have o9 := o8.below hal8
      have kq0 := kq.here.cell 0 _ rfl
      have kq1 := kq.here.cell 1 _ rfl
      have kq2 := kq.here.cell 2 _ rfl
      have cz0 := st9.kr.here.cell 0 _ rfl
      have fz0 := Lib.frozen_of_heap st9.kr.here 0
      have cz1 := st9.kr.here.cell 1 _ rfl
      have fz1 := Lib.frozen_of_heap st9.kr.here 1
      have cz2 := st9.kr.here.cell 2 _ rfl
      have fz2 := Lib.frozen_of_heap st9.kr.here 2
      have HW9 := Lib.hid (drawQ_at (q := Q) (c0 := .bool Q.1.1) (c1 := .slice A8 Q.1.2.length c8) (c2 := .slice B8 Q.2.length d8) st9.gl (HQ.out rfl) o9 (fun i hi => ⟨by have := (l8 i hi).1; omega, o9.lt i hi⟩) st9.cur st9.chg)
      clear st8 st9 o8 o9 kq hal8
      go_wp2
      refine bodyPost_ret (v := .agg #[.bool _, .slice A8 _ c8, .slice B8 _ d8]) (by simp [results, Tryz.results124, go_sem, cz0, cz1, cz2]; exact ⟨rfl, rfl, rfl⟩) rfl ?_
      exact HW9.out
    | false =>
      have st9 := st8.below hal8
      clear o8 kq
      go_wp2_with fail
      refine (specRatZero_any _).mono ?_
      rintro e w9 ⟨u9, S9, rfl, o9, l9, b9⟩
      obtain ⟨A9, c9, B9, d9, rfl⟩ := ownQ_form o9.here
      have st10 := st9.below b9
      have hz9 := hal8.size
      have cz0 := st10.kr.here.cell 0 _ rfl
      have fz0 := Lib.frozen_of_heap st10.kr.here 0
      have cz1 := st10.kr.here.cell 1 _ rfl
      have fz1 := Lib.frozen_of_heap st10.kr.here 1
      have cz2 := st10.kr.here.cell 2 _ rfl
      have fz2 := Lib.frozen_of_heap st10.kr.here 2
      have HW9 := Lib.hid (drawQ_at (q := oneQ) (c0 := .bool oneQ.1.1) (c1 := .slice A9 oneQ.1.2.length c9) (c2 := .slice B9 oneQ.2.length d9) st10.gl oneQ_bd o9 (fun i hi => ⟨by have := (l9 i hi).1; omega, o9.lt i hi⟩) st10.cur st10.chg)
      clear st8 st9 st10 o9 hal8
      go_wp2
      refine bodyPost_ret (v := .agg #[.bool _, .slice A9 _ c9, .slice B9 _ d9]) (by simp [results, Tryz.results124, go_sem, cz0, cz1, cz2]; exact ⟨rfl, rfl, rfl⟩) rfl ?_
      exact HW9.out
  | true =>
    go_wp2_with fail
    refine (l02Nat_any 1 g lo hi v bs _ (by omega) HB.out hn st5.cur st5.row hg).mono ?_
    rintro e w5 ⟨u5, xs, rfl, oky, hly, o5, hc5, hk5⟩
    obtain ⟨A5, c5, rfl⟩ := own_len o5
    have HY := Lib.hid (show natOkB xs = true ∧ xs.length ≤ 1 from ⟨oky, hly⟩)
    have st6 := st5.step hk5 hc5
    have kd6 := kd5.chg hk5 (fun i hi hm => by simp at hi hm; omega)
    have o6 := own_at' o5
    have ol : ∀ i ∈ (Value.slice A5 xs.length c5).ownBlock.toList, w4.heap.size ≤ i := fun i hi => (own_within o5 i hi).1
    have hz7 := hk5.size
    clear od5 oky hly
    go_wp2_with fail
    refine (l01Below_any 999 g lo hi v bs _ (by omega) (by omega) HB.out hn st6.cur st6.row hg).mono ?_
    rintro e w6 ⟨zz, hq0, hq1, rfl, hc6, hg6⟩
    have hk6 := Chg.of_cur hg6
    have st7 := st6.step hk6 hc6
    have kd7 := kd6.chg hk6 (fun i hi hm => by simp at hi hm; omega)
    have o7 : w6.ownsRow w4.heap.size 3 1 (.slice A5 xs.length c5) xs.length (intsV xs) := own_stays o5 (fun i hi => hk6.block i (own_lt o5 hi).2 (by have := (own_lt o5 hi).1; simp; omega))
    have HDD := Lib.hid (den_two HY.out.1 HY.out.2 hq0 hq1)
    obtain ⟨p, hp⟩ : ∃ p, 1 + zz = p := ⟨_, rfl⟩
    have HP := Lib.hid hp
    rw [hp] at HDD
    have hz8' := hk6.size
    have hd0 := kd7.here.cell 1 _ rfl
    have hf0 := Lib.frozen_of_heap kd7.here 1
    clear st6 kd6 o6
    go_wp2_with (at_builtin; (try rw [HP.out]); refine wpList_append_own _ rfl _ _ 22 rfl w4.heap.size 3 i0 (.int .i64 0) 1 8 Tryz.underlying22 hi0 hz0 hz1 hz2 rfl (by decide) _ _ _ rfl (own_alloc o7 _) ⟨w6.heap.size, 0, none⟩ 1 1 [.int .i64 p] rfl rfl (one_new _ _ _) ?c2 ?c3 ?c4 ?c5 ?_)
    case c2 => first | (intro u hu; simp at hu; subst hu; rfl) | rfl
    case c3 => unfold maxLen; have := HY.out.2; omega
    case c4 => have := HY.out.2; omega
    case c5 => simp; omega
    intro v7 w7 hown7 hg7 _
    have hk7 : Chg [g] w4 w7 := ((hk5.trans hk6).alloc _).new_row hg7 (fun j hj => (own_lt o5 hj).1)
    have hc7 : Cur w7 g v bs.length := (hc6.alloc _).grown hg7 (fun e => by have := (own_lt o5 e).1; omega)
    have st8 := st5.step hk7 hc7
    have kd8 := kd5.chg hk7 (fun i hi hm => by simp at hi hm; omega)
    rw [show intsV xs ++ [Value.int .i64 p] = intsV (xs ++ [p]) by simp [intsV]] at hown7
    obtain ⟨D2, hD2⟩ : ∃ D2, xs ++ [p] = D2 := ⟨_, rfl⟩
    have hlx : D2.length = xs.length + 1 := by rw [← hD2]; simp
    rw [hD2] at HDD hown7
    rw [← hlx] at hown7
    obtain ⟨A7, c7, rfl⟩ := own_len hown7
    have hz9 := hk7.size
    have hbx : w1.heap.size < w3.heap.size := by omega
    have odd : At (Value.slice A7 D2.length c7).ownBlock.toList (OwnI (.slice A7 D2.length c7) D2) (w7.setCell ⟨w3.heap.size, 1, none⟩ (.slice A7 D2.length c7)) := by
      have h := own_at' hown7
      exact h.chg ((Chg.refl [w3.heap.size] w7).setCell (by simp) _) (fun i hi hm => by have h2 := (own_within hown7 i hi).1; simp at hm; omega)
    have st8_ := st8.set ⟨w3.heap.size, 1, none⟩ (.slice A7 D2.length c7) (by simp; omega) (by simp; omega) (fun i hi => by have := (xl i hi); simp; omega)
    have kdd := set_one (c := .slice A7 D2.length c7) kd8.here
    have kd_0 := kd8.here.cell 0 _ rfl
    have kd_1 := kd8.here.cell 1 _ rfl
    have fd_1 := Lib.frozen_of_heap kd8.here 1
    have ke_0 := kdd.cell 0 _ rfl
    have ke_1 := kdd.cell 1 _ rfl
    have kx_0 := st8_.kx.here.cell 0 _ rfl
    have kx_1 := st8_.kx.here.cell 1 _ rfl
    have hzs : w7.heap.size = (w7.setCell ⟨w3.heap.size, 1, none⟩ (.slice A7 D2.length c7)).heap.size := by simp [World.setCell]
    clear hlx hD2 hown7 hg7 hk7 hc7 st8 kd8 o7 o5 st5 kd5 hc5 hk5 hc6 hg6 hk6 kd7 st7
    have hS := st8_.size
    go_wp2_with fail
    refine (specRatMake_any _ _ x (false, D2) _ (small_szS HX.out.2) (small_szS HDD.out.2) (OwnS.mk (x := x) st8_.ox.here) (OwnS.mk (x := (false, D2)) odd.here)).mono ?_
    rintro e w8 ⟨u8, S8, rfl, o8, l8, b8⟩
    have HQ := Lib.hid (makeQ_bd (n := x.1) (xs := x.2) HX.out.1 HX.out.2 HDD.out.1 HDD.out.2)
    rw [show ((x.1, x.2) : SI) = x from rfl] at HQ
    obtain ⟨⟨Q, bo⟩, hq⟩ : ∃ Q, makeQ x (false, D2) = Q := ⟨_, rfl⟩
    rw [hq] at o8 HQ ⊢
    obtain ⟨A8, c8, B8, d8, rfl⟩ := ownQ_form o8.here
    have st8 := st8_.below b8
    have hz8 := b8.size
    clear hq kdd odd st8_
    have hal8 := below_al (Below.refl w8.heap.size w8) (.cells #[.bool Q.1.1, .slice A8 Q.1.2.length c8, .slice B8 Q.2.length d8] 34)
    have kq := box_new w8 #[.bool Q.1.1, .slice A8 Q.1.2.length c8, .slice B8 Q.2.length d8] 34
    cases bo with
    | true =>
      have st9 := st8.below hal8
      have o9 := o8.below hal8
      have kq0 := kq.here.cell 0 _ rfl
      have kq1 := kq.here.cell 1 _ rfl
      have kq2 := kq.here.cell 2 _ rfl
      have cz0 := st9.kr.here.cell 0 _ rfl
      have fz0 := Lib.frozen_of_heap st9.kr.here 0
      have cz1 := st9.kr.here.cell 1 _ rfl
      have fz1 := Lib.frozen_of_heap st9.kr.here 1
      have cz2 := st9.kr.here.cell 2 _ rfl
      have fz2 := Lib.frozen_of_heap st9.kr.here 2
      have HW9 := Lib.hid (drawQ_at (q := Q) (c0 := .bool Q.1.1) (c1 := .slice A8 Q.1.2.length c8) (c2 := .slice B8 Q.2.length d8) st9.gl (HQ.out rfl) o9 (fun i hi => ⟨by have := (l8 i hi).1; omega, o9.lt i hi⟩) st9.cur st9.chg)
      clear st8 st9 o8 o9 kq hal8
      go_wp2
      refine bodyPost_ret (v := .agg #[.bool _, .slice A8 _ c8, .slice B8 _ d8]) (by simp [results, Tryz.results124, go_sem, cz0, cz1, cz2]; exact ⟨rfl, rfl, rfl⟩) rfl ?_
      exact HW9.out
    | false =>
      have st9 := st8.below hal8
      clear o8 kq
      go_wp2_with fail
      refine (specRatZero_any _).mono ?_
      rintro e w9 ⟨u9, S9, rfl, o9, l9, b9⟩
      obtain ⟨A9, c9, B9, d9, rfl⟩ := ownQ_form o9.here
      have st10 := st9.below b9
      have hz9 := hal8.size
      have cz0 := st10.kr.here.cell 0 _ rfl
      have fz0 := Lib.frozen_of_heap st10.kr.here 0
      have cz1 := st10.kr.here.cell 1 _ rfl
      have fz1 := Lib.frozen_of_heap st10.kr.here 1
      have cz2 := st10.kr.here.cell 2 _ rfl
      have fz2 := Lib.frozen_of_heap st10.kr.here 2
      have HW9 := Lib.hid (drawQ_at (q := oneQ) (c0 := .bool oneQ.1.1) (c1 := .slice A9 oneQ.1.2.length c9) (c2 := .slice B9 oneQ.2.length d9) st10.gl oneQ_bd o9 (fun i hi => ⟨by have := (l9 i hi).1; omega, o9.lt i hi⟩) st10.cur st10.chg)
      clear st8 st9 st10 o9 hal8
      go_wp2
      refine bodyPost_ret (v := .agg #[.bool _, .slice A9 _ c9, .slice B9 _ d9]) (by simp [results, Tryz.results124, go_sem, cz0, cz1, cz2]; exact ⟨rfl, rfl, rfl⟩) rfl ?_
      exact HW9.out
/-- what MakeRats gives -/
def RatsPost (w : World) (e : Ending) (w' : World) : Prop :=
  ∃ (u0 u1 u2 : Value) (r s t : QI) (S0 S1 S2 : List Nat), e = .returned (.tuple #[u0, u1, u2]) ∧ Bd r 2 ∧ Bd s 2 ∧ Bd t 2 ∧ At S0 (OwnQ u0 r) w' ∧ At S1 (OwnQ u1 s) w' ∧ At S2 (OwnQ u2 t) w' ∧ Below w.heap.size w w'
theorem set3_same {b : Nat} {x0 x1 x2 c0 c1 c2 : Value} {T : TypeId} {W : World} (hb : BoxAt b #[x0, x1, x2] T W) : BoxAt b #[c0, c1, c2] T (((W.setCell ⟨b, 0, none⟩ c0).setCell ⟨b, 1, none⟩ c1).setCell ⟨b, 2, none⟩ c2) := by
  have hb' : W.heap[b]? = some (.cells #[x0, x1, x2] T (0, 0)) := hb
  simp [BoxAt, World.setCell, Array.getElem?_modify, hb']
theorem set3_chg (b : Nat) (c0 c1 c2 : Value) (W : World) : Chg [b] W (((W.setCell ⟨b, 0, none⟩ c0).setCell ⟨b, 1, none⟩ c1).setCell ⟨b, 2, none⟩ c2) := (((Chg.refl _ _).setCell (by simp) _).setCell (by simp) _).setCell (by simp) _
/-- the three results lie in their boxes -/
theorem rats_laid {s : Nat} {a0 a1 a2 b0 b1 b2 c0 c1 c2 : Value} {r1 r2 r3 : QI} {S1 S2 S3 : List Nat} {w W : World} (hw : s = w.heap.size)
    (k0 : At [s] (BoxAt s #[.bool false, .slice none 0 0, .slice none 0 0] 34) W) (k1 : At [s + 1] (BoxAt (s + 1) #[.bool false, .slice none 0 0, .slice none 0 0] 34) W) (k2 : At [s + 1 + 1] (BoxAt (s + 1 + 1) #[.bool false, .slice none 0 0, .slice none 0 0] 34) W)
    (o1 : At S1 (OwnQ (.agg #[a0, a1, a2]) r1) W) (o2 : At S2 (OwnQ (.agg #[b0, b1, b2]) r2) W) (o3 : At S3 (OwnQ (.agg #[c0, c1, c2]) r3) W)
    (l1 : ∀ i ∈ S1, s + 1 + 1 < i) (l2 : ∀ i ∈ S2, s + 1 + 1 < i) (l3 : ∀ i ∈ S3, s + 1 + 1 < i) (hW : Below w.heap.size w W) :
    ∃ F, F = (((((((((W.setCell ⟨s, 0, none⟩ a0).setCell ⟨s, 1, none⟩ a1).setCell ⟨s, 2, none⟩ a2).setCell ⟨s + 1, 0, none⟩ b0).setCell ⟨s + 1, 1, none⟩ b1).setCell ⟨s + 1, 2, none⟩ b2).setCell ⟨s + 1 + 1, 0, none⟩ c0).setCell ⟨s + 1 + 1, 1, none⟩ c1).setCell ⟨s + 1 + 1, 2, none⟩ c2) ∧
      BoxAt s #[a0, a1, a2] 34 F ∧ BoxAt (s + 1) #[b0, b1, b2] 34 F ∧ BoxAt (s + 1 + 1) #[c0, c1, c2] 34 F ∧ At S1 (OwnQ (.agg #[a0, a1, a2]) r1) F ∧ At S2 (OwnQ (.agg #[b0, b1, b2]) r2) F ∧ At S3 (OwnQ (.agg #[c0, c1, c2]) r3) F ∧ Below w.heap.size w F := by
  subst hw
  have h1 := set3_chg w.heap.size a0 a1 a2 W
  have e1 := (box_at (set3_same (c0 := a0) (c1 := a1) (c2 := a2) k0.here))
  have k1a := k1.chg h1 (fun i hi hm => by simp at hi hm; omega)
  have k2a := k2.chg h1 (fun i hi hm => by simp at hi hm; omega)
  have o1a := o1.chg h1 (fun i hi hm => by have := l1 i hi; simp at hm; omega)
  have o2a := o2.chg h1 (fun i hi hm => by have := l2 i hi; simp at hm; omega)
  have o3a := o3.chg h1 (fun i hi hm => by have := l3 i hi; simp at hm; omega)
  have ba := below_chg hW h1 hW.size (fun i hi => by simp at hi; omega)
  generalize (((W.setCell ⟨w.heap.size, 0, none⟩ a0).setCell ⟨w.heap.size, 1, none⟩ a1).setCell ⟨w.heap.size, 2, none⟩ a2) = X at *
  have h2 := set3_chg (w.heap.size + 1) b0 b1 b2 X
  have e2 := (box_at (set3_same (c0 := b0) (c1 := b1) (c2 := b2) k1a.here))
  have e1b := e1.chg h2 (fun i hi hm => by simp at hi hm; omega)
  have k2b := k2a.chg h2 (fun i hi hm => by simp at hi hm; omega)
  have o1b := o1a.chg h2 (fun i hi hm => by have := l1 i hi; simp at hm; omega)
  have o2b := o2a.chg h2 (fun i hi hm => by have := l2 i hi; simp at hm; omega)
  have o3b := o3a.chg h2 (fun i hi hm => by have := l3 i hi; simp at hm; omega)
  have bb := below_chg ba h2 ba.size (fun i hi => by simp at hi; omega)
  generalize (((X.setCell ⟨w.heap.size + 1, 0, none⟩ b0).setCell ⟨w.heap.size + 1, 1, none⟩ b1).setCell ⟨w.heap.size + 1, 2, none⟩ b2) = Y at *
  have h3 := set3_chg (w.heap.size + 1 + 1) c0 c1 c2 Y
  have e3 := set3_same (c0 := c0) (c1 := c1) (c2 := c2) k2b.here
  exact ⟨_, rfl, (e1b.chg h3 (fun i hi hm => by simp at hi hm; omega)).here, (e2.chg h3 (fun i hi hm => by simp at hi hm; omega)).here, e3,
    o1b.chg h3 (fun i hi hm => by have := l1 i hi; simp at hm; omega), o2b.chg h3 (fun i hi hm => by have := l2 i hi; simp at hm; omega), o3b.chg h3 (fun i hi hm => by have := l3 i hi; simp at hm; omega), below_chg bb h3 bb.size (fun i hi => by simp at hi; omega)⟩
end Go.Proofs.YthfkdofnoomhaaaGreatDoor

namespace Go.Proofs.YthfkdofnoomhaaaGreatDoor
open Go.RowKit

/-- what a drawn signed number is -/
def DrawSPost3 (g : Nat) (v : Value) (n : Nat) (w : World) (e : Ending) (w' : World) : Prop :=
  ∃ (u : Value) (x : SI), e = .returned (.agg #[.bool x.1, u]) ∧ okS x = true ∧ x.2.length ≤ 3 ∧ w'.ownsRow w.heap.size 3 1 u x.2.length (intsV x.2) ∧ Cur w' g v n ∧ Chg [g] w w'
theorem drawS_ret3 {r g n : Nat} {u c0 c1 v : Value} {x : SI} {w W : World} {B : Nat} (hb : BoxAt r #[c0, c1] 28 W) (o : W.ownsRow B 3 1 u x.2.length (intsV x.2)) (hB : w.heap.size ≤ B) (hr : w.heap.size ≤ r) (hg : g < w.heap.size) (ok : okS x = true) (hl : x.2.length ≤ 3) (hc : Cur W g v n) (hW : Chg [g] w W) :
    DrawSPost3 g v n w (.returned (.agg #[.bool x.1, u])) ((W.setCell ⟨r, 0, none⟩ (.bool x.1)).setCell ⟨r, 1, none⟩ u) := by
  have hne := Lib.ownBlock_ne o hb (by decide)
  refine ⟨u, x, rfl, ok, hl, own_low (own_stays o fun i hi => ?_) hB, (hc.put (by omega)).put (by omega), (hW.setNew (p := ⟨r, 0, none⟩) hr _).setNew (p := ⟨r, 1, none⟩) hr _⟩
  have : i ≠ r := fun e => hne (by rw [hi, e])
  exact (Below.heap_setCell _ _ _ _ this).trans (Below.heap_setCell _ _ _ _ this)
theorem ofZ_small3 {z : Int} (h0 : -1000 ≤ z) (h1 : z ≤ 1000) : (ofZ z).2.length ≤ 3 := by
  unfold ofZ
  have h := limbs_length_le z.natAbs 1 (by show (z.natAbs : Int) < 1000000000 * 1; omega)
  split
  · exact Nat.le_trans h (by decide)
  · exact Nat.zero_le _
theorem mk_small3 {n : Bool} {xs : List Int} (ok : natOkB xs = true) (hl : xs.length ≤ 3) : okS (mkS n (trimL xs)) = true ∧ (mkS n (trimL xs)).2.length ≤ 3 := by
  rw [natOk_trim ok]
  have e : mkS n xs = (n && decide (0 < xs.length), xs) := by unfold mkS; rw [capL_short (by omega)]
  rw [e]
  refine ⟨?_, hl⟩
  unfold okS
  rw [ok]
  cases n with
  | false => rfl
  | true => by_cases h : 0 < xs.length <;> simp [h]
set_option maxHeartbeats 1000000 in
set_option maxRecDepth 100000 in
theorem l04Draw_any3 (g lo hi : Nat) (v : Value) (bs : List Nat) (w : World) (hb : ∀ b ∈ bs, b < 256) (hn : bs.length ≤ 1048576) (hc : Cur w g v bs.length) (hr : Row w lo hi v (bytesV bs)) (hg : hi ≤ g) :
    Calls Tryz.prog 153 #[.pointer (some ⟨g, 0, none⟩), .int .i64 3] w (DrawSPost3 g v bs.length w) := by
  have HB := Lib.hid hb
  have hgl := hc.lt
  clear hb
  have hbb : Below w.heap.size w (w.alloc (.cells #[.bool false, .slice none 0 0] 28)) := below_al (Below.refl _ _) _
  have kr := box_new w #[.bool false, .slice none 0 0] 28
  obtain ⟨W0, hW0⟩ : ∃ W0, W0 = w.alloc (.cells #[.bool false, .slice none 0 0] 28) := ⟨_, rfl⟩
  rw [← hW0] at hbb kr
  have HW := Lib.hid hW0
  have hc0 := hc.below hbb
  have hr0 := hr.below hbb (by omega)
  have hk0 : Chg [g] w W0 := Chg.of_below hbb
  have hz0 := hbb.size
  clear hW0 hc hr
  go_enter Tryz.func153, Tryz.ntmps153
  go_wp2_with fail
  rw [← HW.out]
  refine (l01Once_any 3 g lo hi v bs _ (by omega) (by omega) HB.out hn hc0 hr0 hg).mono ?_
  rintro e w1 ⟨b, rfl, hc1, hg1⟩
  have hr1 := hr0.far hg1 hg
  have hk1 := hk0.trans (Chg.of_cur hg1)
  have kr1 := kr.chg (Chg.of_cur hg1) (fun i hi hm => by simp at hi hm; omega)
  clear hc0 hr0 hk0 kr hg1
  cases b with
  | true =>
    go_wp2_with fail
    refine (l01Below_any 2001 g lo hi v bs _ (by omega) (by omega) HB.out hn hc1 hr1 hg).mono ?_
    rintro e w2 ⟨x, hx0, hx1, rfl, hc2, hg2⟩
    have hk2 := hk1.trans (Chg.of_cur hg2)
    have kr2 := kr1.chg (Chg.of_cur hg2) (fun i hi hm => by simp at hi hm; omega)
    clear hc1 hr1 hk1 kr1 hg2
    go_wp2_with fail
    refine (specIntOf_any (x - 1000) _ (by omega) (by omega)).mono ?_
    rintro e w3 ⟨u3, rfl, o3, b3⟩
    have HZ := Lib.hid (show okS (ofZ (x - 1000)) = true ∧ (ofZ (x - 1000)).2.length ≤ 3 from ⟨ofZ_ok _, ofZ_small3 (by omega) (by omega)⟩)
    generalize ofZ (x - 1000) = z at *
    obtain ⟨A3, c3, rfl⟩ := own_len o3
    have kr3 := kr2.below b3
    have hc3 := hc2.below b3
    have hk3 := hk2.belowNext b3
    have cz0 := kr3.here.cell 0 _ rfl
    have cz1 := kr3.here.cell 1 _ rfl
    have fz0 := Lib.frozen_of_heap kr3.here 0
    have fz1 := Lib.frozen_of_heap kr3.here 1
    have HO := Lib.hid o3
    have HK := Lib.hid kr3
    have HC := Lib.hid hc3
    have HG := Lib.hid hk3
    have hz2 := hk2.size
    clear o3 kr3 hc3 hk3 kr2 hc2 hk2 b3
    go_wp2
    refine bodyPost_ret (v := .agg #[.bool _, .slice A3 _ c3]) (by simp [results, Tryz.results153, go_sem, cz0, cz1]; exact ⟨rfl, rfl⟩) rfl ?_
    exact drawS_ret3 HK.out.here HO.out hz2 (Nat.le_refl _) hgl HZ.out.1 HZ.out.2 HC.out HG.out
  | false =>
    go_wp2_with fail
    refine (l01Once_any 2 g lo hi v bs _ (by omega) (by omega) HB.out hn hc1 hr1 hg).mono ?_
    rintro e w2 ⟨b2, rfl, hc2, hg2⟩
    have hr2 := hr1.far hg2 hg
    have hk2 := hk1.trans (Chg.of_cur hg2)
    have kr2 := kr1.chg (Chg.of_cur hg2) (fun i hi hm => by simp at hi hm; omega)
    clear hc1 hr1 hk1 kr1 hg2
    go_wp2_with fail
    refine (l02Nat_any 3 g lo hi v bs _ (by omega) HB.out hn hc2 hr2 hg).mono ?_
    rintro e w3 ⟨u3, xs, rfl, okx, hlx, o3, hc3, hg3⟩
    have hk3 := hk2.trans hg3
    have kr3 := kr2.chg hg3 (fun i hi hm => by simp at hi hm; omega)
    have HZ := Lib.hid (mk_small3 (n := b2) okx hlx)
    have hz2 := hk2.size
    clear hc2 hr2 hk2 kr2 hg3 okx
    go_wp2_with fail
    refine (l04Make_any b2 u3 xs _ _ (by omega) o3).mono ?_
    rintro e w4 ⟨u4, rfl, o4, b4⟩
    generalize mkS b2 (trimL xs) = z at *
    obtain ⟨A4, c4, rfl⟩ := own_len o4
    have kr4 := kr3.below b4
    have hc4 := hc3.below b4
    have hk4 := hk3.belowNext b4
    have hz3 := hk3.size
    have cz0 := kr4.here.cell 0 _ rfl
    have cz1 := kr4.here.cell 1 _ rfl
    have fz0 := Lib.frozen_of_heap kr4.here 0
    have fz1 := Lib.frozen_of_heap kr4.here 1
    have HO := Lib.hid o4
    have HK := Lib.hid kr4
    have HC := Lib.hid hc4
    have HG := Lib.hid hk4
    clear o4 kr4 hc4 hk4 kr3 hc3 hk3 b4 o3
    go_wp2
    refine bodyPost_ret (v := .agg #[.bool _, .slice A4 _ c4]) (by simp [results, Tryz.results153, go_sem, cz0, cz1]; exact ⟨rfl, rfl⟩) rfl ?_
    exact drawS_ret3 HK.out.here HO.out hz3 (Nat.le_refl _) hgl HZ.out.1 HZ.out.2 HC.out HG.out
/-- what a drawn fraction is -/
def DrawQPost3 (g : Nat) (v : Value) (n : Nat) (w : World) (e : Ending) (w' : World) : Prop :=
  ∃ (u : Value) (q : QI) (S : List Nat), e = .returned u ∧ Bd q 3 ∧ At S (OwnQ u q) w' ∧ Within S w.heap.size w'.heap.size ∧ Cur w' g v n ∧ Chg [g] w w'
theorem makeQ_bd3 {n : Bool} {xs : List Int} {d : List Int} (h1 : okS (n, xs) = true) (h2 : xs.length ≤ 3) (hd : natOkB d = true) (h3 : d.length ≤ 3) : (makeQ (n, xs) (false, d)).2 = true → Bd (makeQ (n, xs) (false, d)).1 3 := by
  have hx := okS_parts h1
  have l1 := nval_lt xs (natOk_parts hx.1).1
  have l2 := nval_lt d (natOk_parts hd).1
  have m1 := bp_mono h2
  have m2 := bp_mono h3
  have n1 := nval_ok hx.1
  have n2 := nval_ok hd
  have okd : okS (false, d) = true := by unfold okS; rw [hd]; rfl
  have e : makeQ (n, xs) (false, d) = lowQ (n != false) (nval xs).toNat (nval d).toNat := by unfold makeQ; rw [if_pos ⟨h1, okd⟩]
  rw [e]
  intro hok
  by_cases h0 : (nval d).toNat = 0
  · unfold lowQ at hok
    rw [if_neg (fun h => h.1 h0)] at hok
    cases hok
  · exact (low_bd h0 (by omega) (by omega) (by omega)).2.1
theorem oneQ_bd3 : Bd oneQ 3 := ⟨oneQ_ok, by have := bp_pos 3; show (0 : Int) < _; omega, by show (1 : Int) < bp 3; decide⟩
theorem den_one3 {y : Int} (h0 : 0 ≤ y) (h1 : y < 12) : natOkB (limbs (1 + y).toNat) = true ∧ (limbs (1 + y).toNat).length ≤ 3 := by
  have h : (limbs (1 + y).toNat).length ≤ 1 := limbs_length_le _ 1 (by show ((1 + y).toNat : Int) < 1000000000 * 1; omega)
  exact ⟨limbs_okL _ (by omega), by omega⟩
theorem den_two3 {xs : List Int} {z : Int} (h : natOkB xs = true) (hl : xs.length ≤ 2) (h0 : 0 ≤ z) (h1 : z < 999) : natOkB (xs ++ [1 + z]) = true ∧ (xs ++ [1 + z]).length ≤ 3 := by
  have hp := natOk_parts h
  refine ⟨?_, by simp; omega⟩
  unfold natOkB
  rw [Bool.and_eq_true, Bool.and_eq_true, decide_eq_true_eq, decide_eq_true_eq, all_dig]
  refine ⟨fun d hd => ?_, by simp; omega, ?_⟩
  · rcases List.mem_append.1 hd with hd | hd
    · exact hp.1 d hd
    · simp at hd; omega
  · rw [List.getLastD_eq_getLast?, List.getLast?_append]
    simp
    omega
theorem small_szS3 {x : SI} (h : x.2.length ≤ 3) : szS x ≤ 1048576 := by unfold szS szI; omega
theorem drawQ_at3 {w wx : World} {g n : Nat} {v c0 c1 c2 : Value} {q : QI} {S : List Nat} (hgl : g < w.heap.size) (hq : Bd q 3) (o : At S (OwnQ (.agg #[c0, c1, c2]) q) wx) (l : ∀ i ∈ S, w.heap.size < i ∧ i < wx.heap.size) (hc : Cur wx g v n) (hk : Chg [g] w wx) :
    DrawQPost3 g v n w (.returned (.agg #[c0, c1, c2])) (((wx.setCell ⟨w.heap.size, 0, none⟩ c0).setCell ⟨w.heap.size, 1, none⟩ c1).setCell ⟨w.heap.size, 2, none⟩ c2) := by
  have hc3 : Chg [w.heap.size] wx (((wx.setCell ⟨w.heap.size, 0, none⟩ c0).setCell ⟨w.heap.size, 1, none⟩ c1).setCell ⟨w.heap.size, 2, none⟩ c2) := (((Chg.refl _ _).setCell (by simp) _).setCell (by simp) _).setCell (by simp) _
  have hz := hc3.size
  have h1 := hk.size
  exact ⟨_, q, S, rfl, hq, o.chg hc3 (fun i hi hm => by have := (l i hi).1; simp at hm; omega), fun i hi => by have := l i hi; exact ⟨by omega, by omega⟩,
    ((hc.put (by omega)).put (by omega)).put (by omega), ((hk.setNew (p := ⟨w.heap.size, 0, none⟩) (Nat.le_refl _) _).setNew (p := ⟨w.heap.size, 1, none⟩) (Nat.le_refl _) _).setNew (p := ⟨w.heap.size, 2, none⟩) (Nat.le_refl _) _⟩
set_option maxHeartbeats 2000000 in
set_option maxRecDepth 100000 in
theorem l05Draw_any3 (g lo hi : Nat) (v : Value) (bs : List Nat) (w : World) (hb : ∀ b ∈ bs, b < 256) (hn : bs.length ≤ 1048576) (hc : Cur w g v bs.length) (hr : Row w lo hi v (bytesV bs)) (hg : hi ≤ g) :
    Calls Tryz.prog 124 #[.pointer (some ⟨g, 0, none⟩), .int .i64 3] w (DrawQPost3 g v bs.length w) := by
  obtain ⟨i0, hi0, hz0, hz1, hz2⟩ := info_parts intInfo
  have HB := Lib.hid hb
  have hgl := hc.lt
  clear hb
  have hbb : Below w.heap.size w (w.alloc (.cells #[.bool false, .slice none 0 0, .slice none 0 0] 34)) := below_al (Below.refl _ _) _
  have kr := box_new w #[.bool false, .slice none 0 0, .slice none 0 0] 34
  obtain ⟨W0, hW0⟩ : ∃ W0, W0 = w.alloc (.cells #[.bool false, .slice none 0 0, .slice none 0 0] 34) := ⟨_, rfl⟩
  rw [← hW0] at hbb kr
  have HW := Lib.hid hW0
  have hc0 := hc.below hbb
  have hr0 := hr.below hbb (by omega)
  have hk0 : Chg [g] w W0 := Chg.of_below hbb
  have hz0' := hbb.size
  have hzr := kr.lt w.heap.size (by simp)
  clear hW0 hc hr
  go_enter Tryz.func124, Tryz.ntmps124
  go_wp2_with fail
  rw [← HW.out]
  refine (l04Draw_any3 g lo hi v bs _ HB.out hn hc0 hr0 hg).mono ?_
  rintro e w1 ⟨u1, x, rfl, okx, hlx, ox, hc1, hg1⟩
  obtain ⟨A1, c1, rfl⟩ := own_len ox
  have HX := Lib.hid (show okS x = true ∧ x.2.length ≤ 3 from ⟨okx, hlx⟩)
  have hr1 : Row w1 lo hi v (bytesV bs) := hr0.stays (fun p hp => World.cell?_of_block (hg1.block _ (by omega) (by simp; omega)))
  have hk1 := hk0.trans hg1
  have kr1 := kr.chg hg1 (fun i hi hm => by simp at hi hm; omega)
  have hx := below_al (Below.refl w1.heap.size w1) (.cells #[.bool x.1, .slice A1 x.2.length c1] 28)
  have kx := box_new w1 #[.bool x.1, .slice A1 x.2.length c1] 28
  obtain ⟨W1, hW1⟩ : ∃ W1, W1 = w1.alloc (.cells #[.bool x.1, .slice A1 x.2.length c1] 28) := ⟨_, rfl⟩
  rw [← hW1] at hx kx
  have HW1 := Lib.hid hW1
  have st0 : DrawSt w g w1.heap.size lo hi v bs A1 c1 x W1 := ⟨hgl, hg, hk1.size, kr1.below hx, kx, fun i hi => by have := own_within ox i hi; omega, (own_at' ox).below hx, hc1.below hx, hr1.below hx (by have := hk1.size; omega), hk1.belowNext hx⟩
  have xl : ∀ i ∈ (Value.slice A1 x.2.length c1).ownBlock.toList, i < w1.heap.size := fun i hi => (own_within ox i hi).2
  have hx1 : w1.heap.size < W1.heap.size := kx.lt w1.heap.size (by simp)
  clear hW1 hc0 hr0 kr hk0 hbb hc1 hr1 hg1 kr1 ox hx hk1 kx okx hlx
  go_wp2_with fail
  rw [← HW1.out]
  refine (l01Below_any 12 g lo hi v bs _ (by omega) (by omega) HB.out hn st0.cur st0.row hg).mono ?_
  rintro e w2 ⟨y, hy0, hy1, rfl, hc2, hg2⟩
  have st2 := st0.step (Chg.of_cur hg2) hc2
  have hx2 := hg2.size
  clear st0 hc2 hg2
  go_wp2_with fail
  refine (specNatOf_any (1 + y) _ (by omega)).mono ?_
  rintro e w3 ⟨ud, rfl, od, b3⟩
  have hD := den_one3 hy0 hy1
  generalize limbs (1 + y).toNat = D at *
  obtain ⟨Ad, cd, rfl⟩ := own_len od
  have st3 := st2.below b3
  have hz3 := st2.size
  have HD0 := Lib.hid hD
  have hal := below_al (Below.refl w3.heap.size w3) (.cells #[.bool false, .slice Ad D.length cd] 28)
  have kd := box_new w3 #[.bool false, .slice Ad D.length cd] 28
  obtain ⟨W3, hW3⟩ : ∃ W3, W3 = w3.alloc (.cells #[.bool false, .slice Ad D.length cd] 28) := ⟨_, rfl⟩
  rw [← hW3] at hal kd
  have HW3 := Lib.hid hW3
  have st4 := st3.below hal
  have od4 := (own_at' od).below hal
  have dl : ∀ i ∈ (Value.slice Ad D.length cd).ownBlock.toList, w2.heap.size ≤ i := fun i hi => (own_within od i hi).1
  have hz4 := b3.size
  have hz5 : w3.heap.size < W3.heap.size := kd.lt w3.heap.size (by simp)
  clear hW3 st2 st3 od b3 hal hD
  go_wp2_with fail
  rw [← HW3.out]
  refine (l01Once_any 3 g lo hi v bs _ (by omega) (by omega) HB.out hn st4.cur st4.row hg).mono ?_
  rintro e w4 ⟨b, rfl, hc4, hg4⟩
  have hk4 := Chg.of_cur hg4
  have st5 := st4.step hk4 hc4
  have kd5 := kd.chg hk4 (fun i hi hm => by simp at hi hm; omega)
  have od5 := od4.chg hk4 (fun i hi hm => by have := dl i hi; simp at hm; omega)
  have hz6 := hk4.size
  clear st4 kd od4 hk4 hc4 hg4
  cases b with
  | false =>
    have HDD := HD0
    have odd := od5
    have kdd := kd5
    have kd5_0 := kd5.here.cell 0 _ rfl
    have kd5_1 := kd5.here.cell 1 _ rfl
    have kx5_0 := st5.kx.here.cell 0 _ rfl
    have kx5_1 := st5.kx.here.cell 1 _ rfl
    clear od5 kd5
    have hS := st5.size
    go_wp2_with fail
    refine (specRatMake_any _ _ x (false, D) _ (small_szS3 HX.out.2) (small_szS3 HDD.out.2) (OwnS.mk (x := x) st5.ox.here) (OwnS.mk (x := (false, D)) odd.here)).mono ?_
    rintro e w8 ⟨u8, S8, rfl, o8, l8, b8⟩
    have HQ := Lib.hid (makeQ_bd3 (n := x.1) (xs := x.2) HX.out.1 HX.out.2 HDD.out.1 HDD.out.2)
    rw [show ((x.1, x.2) : SI) = x from rfl] at HQ
    obtain ⟨⟨Q, bo⟩, hq⟩ : ∃ Q, makeQ x (false, D) = Q := ⟨_, rfl⟩
    rw [hq] at o8 HQ ⊢
    obtain ⟨A8, c8, B8, d8, rfl⟩ := ownQ_form o8.here
    have st8 := st5.below b8
    have hz8 := b8.size
    clear hq kdd odd st5
    have hal8 := below_al (Below.refl w8.heap.size w8) (.cells #[.bool Q.1.1, .slice A8 Q.1.2.length c8, .slice B8 Q.2.length d8] 34)
    have kq := box_new w8 #[.bool Q.1.1, .slice A8 Q.1.2.length c8, .slice B8 Q.2.length d8] 34
    cases bo with
    | true =>
      have st9 := st8.below hal8
      have o9 := o8.below hal8
      have kq0 := kq.here.cell 0 _ rfl
      have kq1 := kq.here.cell 1 _ rfl
      have kq2 := kq.here.cell 2 _ rfl
      have cz0 := st9.kr.here.cell 0 _ rfl
      have fz0 := Lib.frozen_of_heap st9.kr.here 0
      have cz1 := st9.kr.here.cell 1 _ rfl
      have fz1 := Lib.frozen_of_heap st9.kr.here 1
      have cz2 := st9.kr.here.cell 2 _ rfl
      have fz2 := Lib.frozen_of_heap st9.kr.here 2
      have HW9 := Lib.hid (drawQ_at3 (q := Q) (c0 := .bool Q.1.1) (c1 := .slice A8 Q.1.2.length c8) (c2 := .slice B8 Q.2.length d8) st9.gl (HQ.out rfl) o9 (fun i hi => ⟨by have := (l8 i hi).1; omega, o9.lt i hi⟩) st9.cur st9.chg)
      clear st8 st9 o8 o9 kq hal8
      go_wp2
      refine bodyPost_ret (v := .agg #[.bool _, .slice A8 _ c8, .slice B8 _ d8]) (by simp [results, Tryz.results124, go_sem, cz0, cz1, cz2]; exact ⟨rfl, rfl, rfl⟩) rfl ?_
      exact HW9.out
    | false =>
      have st9 := st8.below hal8
      clear o8 kq
      go_wp2_with fail
      refine (specRatZero_any _).mono ?_
      rintro e w9 ⟨u9, S9, rfl, o9, l9, b9⟩
      obtain ⟨A9, c9, B9, d9, rfl⟩ := ownQ_form o9.here
      have st10 := st9.below b9
      have hz9 := hal8.size
      have cz0 := st10.kr.here.cell 0 _ rfl
      have fz0 := Lib.frozen_of_heap st10.kr.here 0
      have cz1 := st10.kr.here.cell 1 _ rfl
      have fz1 := Lib.frozen_of_heap st10.kr.here 1
      have cz2 := st10.kr.here.cell 2 _ rfl
      have fz2 := Lib.frozen_of_heap st10.kr.here 2
      have HW9 := Lib.hid (drawQ_at3 (q := oneQ) (c0 := .bool oneQ.1.1) (c1 := .slice A9 oneQ.1.2.length c9) (c2 := .slice B9 oneQ.2.length d9) st10.gl oneQ_bd3 o9 (fun i hi => ⟨by have := (l9 i hi).1; omega, o9.lt i hi⟩) st10.cur st10.chg)
      clear st8 st9 st10 o9 hal8
      go_wp2
      refine bodyPost_ret (v := .agg #[.bool _, .slice A9 _ c9, .slice B9 _ d9]) (by simp [results, Tryz.results124, go_sem, cz0, cz1, cz2]; exact ⟨rfl, rfl, rfl⟩) rfl ?_
      exact HW9.out
  | true =>
    go_wp2_with fail
    refine (l02Nat_any 2 g lo hi v bs _ (by omega) HB.out hn st5.cur st5.row hg).mono ?_
    rintro e w5 ⟨u5, xs, rfl, oky, hly, o5, hc5, hk5⟩
    obtain ⟨A5, c5, rfl⟩ := own_len o5
    have HY := Lib.hid (show natOkB xs = true ∧ xs.length ≤ 2 from ⟨oky, hly⟩)
    have st6 := st5.step hk5 hc5
    have kd6 := kd5.chg hk5 (fun i hi hm => by simp at hi hm; omega)
    have o6 := own_at' o5
    have ol : ∀ i ∈ (Value.slice A5 xs.length c5).ownBlock.toList, w4.heap.size ≤ i := fun i hi => (own_within o5 i hi).1
    have hz7 := hk5.size
    clear od5 oky hly
    go_wp2_with fail
    refine (l01Below_any 999 g lo hi v bs _ (by omega) (by omega) HB.out hn st6.cur st6.row hg).mono ?_
    rintro e w6 ⟨zz, hq0, hq1, rfl, hc6, hg6⟩
    have hk6 := Chg.of_cur hg6
    have st7 := st6.step hk6 hc6
    have kd7 := kd6.chg hk6 (fun i hi hm => by simp at hi hm; omega)
    have o7 : w6.ownsRow w4.heap.size 3 1 (.slice A5 xs.length c5) xs.length (intsV xs) := own_stays o5 (fun i hi => hk6.block i (own_lt o5 hi).2 (by have := (own_lt o5 hi).1; simp; omega))
    have HDD := Lib.hid (den_two3 HY.out.1 HY.out.2 hq0 hq1)
    obtain ⟨p, hp⟩ : ∃ p, 1 + zz = p := ⟨_, rfl⟩
    have HP := Lib.hid hp
    rw [hp] at HDD
    have hz8' := hk6.size
    have hd0 := kd7.here.cell 1 _ rfl
    have hf0 := Lib.frozen_of_heap kd7.here 1
    clear st6 kd6 o6
    go_wp2_with (at_builtin; (try rw [HP.out]); refine wpList_append_own _ rfl _ _ 22 rfl w4.heap.size 3 i0 (.int .i64 0) 1 8 Tryz.underlying22 hi0 hz0 hz1 hz2 rfl (by decide) _ _ _ rfl (own_alloc o7 _) ⟨w6.heap.size, 0, none⟩ 1 1 [.int .i64 p] rfl rfl (one_new _ _ _) ?c2 ?c3 ?c4 ?c5 ?_)
    case c2 => first | (intro u hu; simp at hu; subst hu; rfl) | rfl
    case c3 => unfold maxLen; have := HY.out.2; omega
    case c4 => have := HY.out.2; omega
    case c5 => simp; omega
    intro v7 w7 hown7 hg7 _
    have hk7 : Chg [g] w4 w7 := ((hk5.trans hk6).alloc _).new_row hg7 (fun j hj => (own_lt o5 hj).1)
    have hc7 : Cur w7 g v bs.length := (hc6.alloc _).grown hg7 (fun e => by have := (own_lt o5 e).1; omega)
    have st8 := st5.step hk7 hc7
    have kd8 := kd5.chg hk7 (fun i hi hm => by simp at hi hm; omega)
    rw [show intsV xs ++ [Value.int .i64 p] = intsV (xs ++ [p]) by simp [intsV]] at hown7
    obtain ⟨D2, hD2⟩ : ∃ D2, xs ++ [p] = D2 := ⟨_, rfl⟩
    have hlx : D2.length = xs.length + 1 := by rw [← hD2]; simp
    rw [hD2] at HDD hown7
    rw [← hlx] at hown7
    obtain ⟨A7, c7, rfl⟩ := own_len hown7
    have hz9 := hk7.size
    have hbx : w1.heap.size < w3.heap.size := by omega
    have odd : At (Value.slice A7 D2.length c7).ownBlock.toList (OwnI (.slice A7 D2.length c7) D2) (w7.setCell ⟨w3.heap.size, 1, none⟩ (.slice A7 D2.length c7)) := by
      have h := own_at' hown7
      exact h.chg ((Chg.refl [w3.heap.size] w7).setCell (by simp) _) (fun i hi hm => by have h2 := (own_within hown7 i hi).1; simp at hm; omega)
    have st8_ := st8.set ⟨w3.heap.size, 1, none⟩ (.slice A7 D2.length c7) (by simp; omega) (by simp; omega) (fun i hi => by have := (xl i hi); simp; omega)
    have kdd := set_one (c := .slice A7 D2.length c7) kd8.here
    have kd_0 := kd8.here.cell 0 _ rfl
    have kd_1 := kd8.here.cell 1 _ rfl
    have fd_1 := Lib.frozen_of_heap kd8.here 1
    have ke_0 := kdd.cell 0 _ rfl
    have ke_1 := kdd.cell 1 _ rfl
    have kx_0 := st8_.kx.here.cell 0 _ rfl
    have kx_1 := st8_.kx.here.cell 1 _ rfl
    have hzs : w7.heap.size = (w7.setCell ⟨w3.heap.size, 1, none⟩ (.slice A7 D2.length c7)).heap.size := by simp [World.setCell]
    clear hlx hD2 hown7 hg7 hk7 hc7 st8 kd8 o7 o5 st5 kd5 hc5 hk5 hc6 hg6 hk6 kd7 st7
    have hS := st8_.size
    go_wp2_with fail
    refine (specRatMake_any _ _ x (false, D2) _ (small_szS3 HX.out.2) (small_szS3 HDD.out.2) (OwnS.mk (x := x) st8_.ox.here) (OwnS.mk (x := (false, D2)) odd.here)).mono ?_
    rintro e w8 ⟨u8, S8, rfl, o8, l8, b8⟩
    have HQ := Lib.hid (makeQ_bd3 (n := x.1) (xs := x.2) HX.out.1 HX.out.2 HDD.out.1 HDD.out.2)
    rw [show ((x.1, x.2) : SI) = x from rfl] at HQ
    obtain ⟨⟨Q, bo⟩, hq⟩ : ∃ Q, makeQ x (false, D2) = Q := ⟨_, rfl⟩
    rw [hq] at o8 HQ ⊢
    obtain ⟨A8, c8, B8, d8, rfl⟩ := ownQ_form o8.here
    have st8 := st8_.below b8
    have hz8 := b8.size
    clear hq kdd odd st8_
    have hal8 := below_al (Below.refl w8.heap.size w8) (.cells #[.bool Q.1.1, .slice A8 Q.1.2.length c8, .slice B8 Q.2.length d8] 34)
    have kq := box_new w8 #[.bool Q.1.1, .slice A8 Q.1.2.length c8, .slice B8 Q.2.length d8] 34
    cases bo with
    | true =>
      have st9 := st8.below hal8
      have o9 := o8.below hal8
      have kq0 := kq.here.cell 0 _ rfl
      have kq1 := kq.here.cell 1 _ rfl
      have kq2 := kq.here.cell 2 _ rfl
      have cz0 := st9.kr.here.cell 0 _ rfl
      have fz0 := Lib.frozen_of_heap st9.kr.here 0
      have cz1 := st9.kr.here.cell 1 _ rfl
      have fz1 := Lib.frozen_of_heap st9.kr.here 1
      have cz2 := st9.kr.here.cell 2 _ rfl
      have fz2 := Lib.frozen_of_heap st9.kr.here 2
      have HW9 := Lib.hid (drawQ_at3 (q := Q) (c0 := .bool Q.1.1) (c1 := .slice A8 Q.1.2.length c8) (c2 := .slice B8 Q.2.length d8) st9.gl (HQ.out rfl) o9 (fun i hi => ⟨by have := (l8 i hi).1; omega, o9.lt i hi⟩) st9.cur st9.chg)
      clear st8 st9 o8 o9 kq hal8
      go_wp2
      refine bodyPost_ret (v := .agg #[.bool _, .slice A8 _ c8, .slice B8 _ d8]) (by simp [results, Tryz.results124, go_sem, cz0, cz1, cz2]; exact ⟨rfl, rfl, rfl⟩) rfl ?_
      exact HW9.out
    | false =>
      have st9 := st8.below hal8
      clear o8 kq
      go_wp2_with fail
      refine (specRatZero_any _).mono ?_
      rintro e w9 ⟨u9, S9, rfl, o9, l9, b9⟩
      obtain ⟨A9, c9, B9, d9, rfl⟩ := ownQ_form o9.here
      have st10 := st9.below b9
      have hz9 := hal8.size
      have cz0 := st10.kr.here.cell 0 _ rfl
      have fz0 := Lib.frozen_of_heap st10.kr.here 0
      have cz1 := st10.kr.here.cell 1 _ rfl
      have fz1 := Lib.frozen_of_heap st10.kr.here 1
      have cz2 := st10.kr.here.cell 2 _ rfl
      have fz2 := Lib.frozen_of_heap st10.kr.here 2
      have HW9 := Lib.hid (drawQ_at3 (q := oneQ) (c0 := .bool oneQ.1.1) (c1 := .slice A9 oneQ.1.2.length c9) (c2 := .slice B9 oneQ.2.length d9) st10.gl oneQ_bd3 o9 (fun i hi => ⟨by have := (l9 i hi).1; omega, o9.lt i hi⟩) st10.cur st10.chg)
      clear st8 st9 st10 o9 hal8
      go_wp2
      refine bodyPost_ret (v := .agg #[.bool _, .slice A9 _ c9, .slice B9 _ d9]) (by simp [results, Tryz.results124, go_sem, cz0, cz1, cz2]; exact ⟨rfl, rfl, rfl⟩) rfl ?_
      exact HW9.out
/-- a drawn fraction, new -/
def NearPost (w : World) (e : Ending) (w' : World) : Prop :=
  ∃ (u : Value) (q : QI) (S : List Nat), e = .returned u ∧ Bd q 3 ∧ At S (OwnQ u q) w' ∧ Within S w.heap.size w'.heap.size ∧ Below w.heap.size w w'
theorem near_at {B : Nat} {S : List Nat} {c0 c1 c2 : Value} {q : QI} {w W : World} (hq : Bd q 3) (o : At S (OwnQ (.agg #[c0, c1, c2]) q) W) (l : Within S B W.heap.size) (hB : w.heap.size < B) (hW : Below w.heap.size w W) :
    NearPost w (.returned (.agg #[c0, c1, c2])) (((W.setCell ⟨w.heap.size, 0, none⟩ c0).setCell ⟨w.heap.size, 1, none⟩ c1).setCell ⟨w.heap.size, 2, none⟩ c2) := by
  have hc := set3_chg w.heap.size c0 c1 c2 W
  have hz := hc.size
  exact ⟨_, q, S, rfl, hq, o.chg hc (fun i hi hm => by have := l i hi; simp at hm; omega), fun i hi => by have := l i hi; omega, below_set3 hW (Nat.le_refl _)⟩
theorem near_made {x p : Int} (h0 : 0 ≤ x) (h1 : x < 41) (hp : p ∈ [2, 2, 4, 3, 1]) : (-9223372036854775808 ≤ p ∧ p ≤ 9223372036854775807) ∧ Bd (makeQ (ofZ (x - 20)) (ofZ p)).1 3 := by
  have hp2 : 1 ≤ p ∧ p ≤ 4 := by simp at hp; omega
  have e : valS (ofZ (x - 20)) = x - 20 := small_ofZ (k := 1) (by have : bp 1 = 1000000000 := rfl; omega) (by omega)
  have h3 : bp 1 ≤ bp 3 := bp_mono (by omega)
  have b1 : bp 1 = 1000000000 := rfl
  exact ⟨by omega, (quot_is (ofZ_ok (x - 20)) (k := 3) (by omega) (by omega) (by rw [e]; omega) hp2.1 (by omega)).2.1⟩
set_option maxHeartbeats 2000000 in
set_option maxRecDepth 100000 in
theorem makeNear_any (v : Value) (bs : List Nat) (w : World) (hb : ∀ b ∈ bs, b < 256) (hn : bs.length ≤ 1048576) (hr : Row w 0 w.heap.size v (bytesV bs)) :
    Calls Tryz.prog 50 #[v] w (NearPost w) := by
  have HB := Lib.hid hb
  clear hb
  have bb0 : Below w.heap.size w (w.alloc (.cells #[.bool false, .slice none 0 0, .slice none 0 0] 34)) := below_al (Below.refl _ _) _
  have ko := box_new w #[.bool false, .slice none 0 0, .slice none 0 0] 34
  obtain ⟨W0, hW0⟩ : ∃ W0, W0 = w.alloc (.cells #[.bool false, .slice none 0 0, .slice none 0 0] 34) := ⟨_, rfl⟩
  rw [← hW0] at bb0 ko
  have HW := Lib.hid hW0
  have hr0 := hr.below bb0 (Nat.le_refl _)
  have hz0 := ko.lt w.heap.size (by simp)
  clear hW0 hr
  go_enter Tryz.func50, Tryz.ntmps50
  go_wp2_with fail
  rw [← HW.out]
  refine (l01New_any 0 w.heap.size v bs _ HB.out hn hr0).mono ?_
  rintro e w1 ⟨g, hg, rfl, hc1, b1⟩
  have hr1 := hr0.below b1 (by omega)
  replace ko := ko.below b1
  have bb1 := Below.next bb0 b1
  have hgl := hc1.lt
  have hwg : w.heap.size < g := by omega
  clear hr0 bb0
  go_wp2_with fail
  refine (l01Once_any 2 g 0 w.heap.size v bs _ (by omega) (by omega) HB.out hn hc1 hr1 (by omega)).mono ?_
  rintro e w2 ⟨b, rfl, hc2, hg2⟩
  have hk2 := Chg.of_cur hg2
  have hr2 := hr1.far hg2 (by omega)
  replace ko := ko.chg hk2 (fun i hi hm => by simp at hi hm; omega)
  have bb2 := below_chg bb1 hk2 bb1.size (fun i hi => by simp at hi; omega)
  have hz2 := hk2.size
  clear hr1 hc1 hg2 hk2
  cases b with
  | true =>
    go_wp2_with fail
    refine (l01Below_any 41 g 0 w.heap.size v bs _ (by omega) (by omega) HB.out hn hc2 hr2 (by omega)).mono ?_
    rintro e w3 ⟨x, hx0, hx1, rfl, hc3, hg3⟩
    have hk3 := Chg.of_cur hg3
    have hr3 := hr2.far hg3 (by omega)
    replace ko := ko.chg hk3 (fun i hi hm => by simp at hi hm; omega)
    have bb3 := below_chg bb2 hk3 bb2.size (fun i hi => by simp at hi; omega)
    have hz3 := hk3.size
    clear hr2 hc2 hg3 hk3 bb2
    have HNM := Lib.hid (fun p hp => near_made (x := x) (p := p) hx0 hx1 hp)
    go_wp2_with fail
    refine ((specIntOf_any (x - 20) _ (by omega) (by omega)).mono fun _ _ h => NewS.newV h).mono ?_
    rintro e w4 ⟨u4, S4, rfl, o4, l4, b4⟩
    obtain ⟨A4, c4, rfl⟩ := ownS_form o4.here
    have HZ4 := Lib.hid (szS_50 (ofZ_ok (x - 20)))
    generalize ofZ (x - 20) = X at *
    have hr4 := hr3.below b4 (by omega)
    replace ko := ko.below b4
    have bb4 := Below.next bb3 b4
    have hc4 := hc3.below b4
    have hz4 := b4.size
    clear hr3 hc3 bb3 b4
    have al5 := below_al (Below.refl w4.heap.size w4) (.cells #[.int .i64 2, .int .i64 2, .int .i64 4, .int .i64 3, .int .i64 1] 3)
    have hz5 : (w4.alloc (.cells #[.int .i64 2, .int .i64 2, .int .i64 4, .int .i64 3, .int .i64 1] 3)).heap.size = w4.heap.size + 1 := by simp
    go_wp2_with fail
    refine (l01Pick_any [2, 2, 4, 3, 1] _ w4.heap.size (w4.heap.size + 1) g 0 w.heap.size v bs _ (by simp) (by simp) HB.out hn (hc4.alloc _) (hr4.below al5 (by have := hc4.lt; omega)) (by omega) (Row.lit w4 #[.int .i64 2, .int .i64 2, .int .i64 4, .int .i64 3, .int .i64 1] _) (.inr hc4.lt)).mono ?_
    rintro e w6 ⟨p, hp, rfl, hc6, hg6⟩
    have hk6 := Chg.of_cur hg6
    have hr6 := (hr4.below al5 (by have := hc4.lt; omega)).far hg6 (by omega)
    replace ko := (ko.below al5).chg hk6 (fun i hi hm => by simp at hi hm; omega)
    have o6 := (o4.below al5).chg hk6 (fun i hi hm => by have := (l4 i hi).1; simp at hm; omega)
    have bb6 := below_chg (Below.next bb4 al5) hk6 (by omega) (fun i hi => by simp at hi; omega)
    have hz6 := hk6.size
    obtain ⟨⟨p0, p1⟩, hbq⟩ := HNM.out p hp
    have HBQ := Lib.hid hbq
    clear hr4 hc4 hg6 hk6 al5 o4 bb4 hbq HNM hp
    go_wp2_with fail
    refine ((specIntOf_any p _ p0 p1).mono fun _ _ h => NewS.newV h).mono ?_
    rintro e w7 ⟨u7, S7, rfl, o7, l7, b7⟩
    obtain ⟨A7, c7, rfl⟩ := ownS_form o7.here
    have HZ7 := Lib.hid (szS_50 (ofZ_ok p))
    generalize ofZ p = Y at *
    replace ko := ko.below b7
    have o8 := o6.below b7
    have bb7 := Below.next bb6 b7
    have hz7 := b7.size
    clear hr6 hc6 o6 bb6 b7 p0 p1
    go_wp2_with fail
    refine (specRatMake_any _ _ X Y _ HZ4.out HZ7.out o8.here o7.here).mono ?_
    rintro e w9 ⟨uf, Sf, rfl, of, lf, b9⟩
    obtain ⟨Af, cf, Bf, df, rfl⟩ := ownQ_form of.here
    generalize (makeQ X Y).1 = q at *
    generalize (makeQ X Y).2 = bo at *
    have alr := below_al (Below.refl w9.heap.size w9) (.cells #[.bool q.1.1, .slice Af q.1.2.length cf, .slice Bf q.2.length df] 34)
    have kr := box_new w9 #[.bool q.1.1, .slice Af q.1.2.length cf, .slice Bf q.2.length df] 34
    replace ko := (ko.below b9).below alr
    have bb9 := Below.next (Below.next bb7 b9) alr
    have og := of.below alr
    have lg := within_up lf (Nat.le_refl _) alr.size
    have HFIN := Lib.hid (near_at (w := w) HBQ.out og lg (by omega) bb9)
    have cz0 := ko.here.cell 0 _ rfl
    have fz0 := Lib.frozen_of_heap ko.here 0
    have cz1 := ko.here.cell 1 _ rfl
    have fz1 := Lib.frozen_of_heap ko.here 1
    have cz2 := ko.here.cell 2 _ rfl
    have fz2 := Lib.frozen_of_heap ko.here 2
    have cr0 := kr.here.cell 0 _ rfl
    have cr1 := kr.here.cell 1 _ rfl
    have cr2 := kr.here.cell 2 _ rfl
    clear og lg of lf o7 o8 kr ko alr bb7 bb9
    go_wp2
    refine bodyPost_ret (v := .agg #[.bool _, .slice Af _ cf, .slice Bf _ df]) (by simp [results, Tryz.results50, go_sem, cz0, cz1, cz2]; exact ⟨rfl, rfl, rfl⟩) rfl ?_
    exact HFIN.out
  | false =>
    go_wp2_with fail
    refine (l05Draw_any3 g 0 w.heap.size v bs _ HB.out hn hc2 hr2 (by omega)).mono ?_
    rintro e w3 ⟨u3, q, Sf, rfl, hbr, of, lf, hc3, hk3⟩
    obtain ⟨Af, cf, Bf, df, rfl⟩ := ownQ_form of.here
    replace ko := ko.chg hk3 (fun i hi hm => by simp at hi hm; omega)
    have bb3 := below_chg bb2 hk3 bb2.size (fun i hi => by simp at hi; omega)
    have HFIN := Lib.hid (near_at (w := w) hbr of lf (by omega) bb3)
    have cz0 := ko.here.cell 0 _ rfl
    have fz0 := Lib.frozen_of_heap ko.here 0
    have cz1 := ko.here.cell 1 _ rfl
    have fz1 := Lib.frozen_of_heap ko.here 1
    have cz2 := ko.here.cell 2 _ rfl
    have fz2 := Lib.frozen_of_heap ko.here 2
    clear of lf ko bb2 bb3 hbr
    go_wp2
    refine bodyPost_ret (v := .agg #[.bool _, .slice Af _ cf, .slice Bf _ df]) (by simp [results, Tryz.results50, go_sem, cz0, cz1, cz2]; exact ⟨rfl, rfl, rfl⟩) rfl ?_
    exact HFIN.out
end Go.Proofs.YthfkdofnoomhaaaGreatDoor
