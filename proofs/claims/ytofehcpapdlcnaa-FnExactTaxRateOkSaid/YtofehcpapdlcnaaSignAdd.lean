/-
  Chapter 5 of package spec: sums of signed numbers.
-/
import Derived.Test.YtofehcpapdlcnaaSignSpec
import Derived.Test.YtofehcpapdlcnaaNatSpec2
import Derived.Test.YtofehcpapdlcnaaNatMul
import Derived.Deep.RegionHeld3
namespace Go.Proofs.Ytofehcpapdlcnaa
open Go.RowKit

theorem At.behind {S : List Nat} {φ : World → Prop} {w w1 w2 : World} (h : At S φ w) (hb : Below w1.heap.size w1 w2) (hh : w1.heap = w.heap) : At S φ w2 :=
  (At.move (w' := w1) h (fun _ _ => by rw [hh]) (by rw [hh]; exact Nat.le_refl _)).below hb
theorem Chg.drew1 {T : List Nat} {w w1 : World} (h : Chg T w w1) : Chg T w w1.drew := ⟨h.os, h.tape, h.output, h.size, h.block⟩
theorem mk_add {n : Bool} {a b : List Int} (oa : natOkB a = true) (ob : natOkB b = true) : mkS n (trimL (addL a b 0)) = ofZ (if n = true then -(nval a + nval b) else nval a + nval b) := by
  have hv := addL_val a b 0 (natOk_parts oa).1 (natOk_parts ob).1 (by omega) (by omega)
  have h1 := nval_ok oa
  have h2 := nval_ok ob
  rw [trim_limbs _ hv.2.1, hv.1, mkS_limbs]
  congr 1
  split <;> omega
theorem mk_sub {n : Bool} {a b : List Int} (oa : natOkB a = true) (ob : natOkB b = true) (hle : nval b ≤ nval a) : mkS n (trimL (trimL (subL a b 0))) = ofZ (if n = true then -(nval a - nval b) else nval a - nval b) ∧ (subL a b 0).length = a.length := by
  have pa := natOk_parts oa
  have pb := natOk_parts ob
  have hll := len_of_le a b pa.1 ⟨pb.1, pb.2.2⟩ hle
  have hv := subL_val a b 0 pa.1 pb.1 hll (by omega) (by omega) (by omega)
  have h1 := nval_ok oa
  have h2 := nval_ok ob
  refine ⟨?_, hv.2.2⟩
  rw [trim_limbs (subL a b 0) hv.2.1, trimL_limbs, hv.1, mkS_limbs]
  congr 1
  split <;> omega




theorem mk_mul {n m : Bool} {a b L : List Int} (hL : trimL L = limbs (nval a * nval b).toNat) (oa : natOkB a = true) (ob : natOkB b = true) : mkS (n != m) (trimL L) = ofZ (valS (n, a) * valS (m, b)) := by
  have h1 := nval_ok oa
  have h2 := nval_ok ob
  have h3 := Int.mul_nonneg h1 h2
  rw [hL, mkS_limbs]
  congr 1
  unfold valS
  cases n <;> cases m <;> simp [Int.toNat_of_nonneg h3, Int.mul_neg, Int.neg_mul] <;> omega
def MulPost (z : Int) (w : World) (e : Ending) (w' : World) : Prop := ∃ L, trimL L = limbs z.toNat ∧ L.length ≤ 200 ∧ NewInts L w e w'
theorem l02Mul_ok (va vb : Value) (a b : List Int) (w : World) (oa : natOkB a = true) (ob : natOkB b = true) (hra : Row w 0 w.heap.size va (intsV a)) (hrb : Row w 0 w.heap.size vb (intsV b)) :
    Calls Try.prog 43 #[va, vb] w (MulPost (nval a * nval b) w) := by
  have pa := natOk_parts oa
  have pb := natOk_parts ob
  by_cases h0 : a.length = 0 ∨ b.length = 0
  · refine (specMul_nil va vb a b _ _ _ _ w pa.2.1 pb.2.1 h0 hra hrb).mono fun e w' h => ⟨[], ?_, by simp, h⟩
    have hz : nval a * nval b = 0 := by
      rcases h0 with h0 | h0
      · rw [List.eq_nil_of_length_eq_zero h0]; exact Int.zero_mul _
      · rw [List.eq_nil_of_length_eq_zero h0]; exact Int.mul_zero _
    rw [hz]
    show _ = limbs 0
    rw [limbs_none]
    rfl
  · have hv := mul_val' a b pa.1 pb.1
    refine (specMul_any va vb a b _ _ _ _ w pa.2.1 pb.2.1 (by omega) (by omega) (Nat.le_refl _) (Nat.le_refl _) pa.1 pb.1 hra hrb).mono fun e w' h => ⟨_, ?_, ?_, h⟩
    · rw [trim_limbs _ hv.2.1, trimL_limbs, hv.1]
    · have := trimL_length (mulL a b (List.replicate (a.length + b.length) 0))
      have h1 := hv.2.2
      have h2 := pa.2.1
      have h3 := pb.2.1
      omega

set_option maxHeartbeats 4000000 in
set_option maxRecDepth 100000 in
theorem specIntMul_any (vx vy : Value) (x y : SI) (w : World) (hlx : x.2.length ≤ 1048576) (hly : y.2.length ≤ 1048576) (hx : OwnS vx x w) (hy : OwnS vy y w) :
    Calls Try.prog 33 #[vx, vy] w (NewS (mulS x y) w) := by
  obtain ⟨ux, rfl, hox⟩ := hx
  obtain ⟨uy, rfl, hoy⟩ := hy
  obtain ⟨Ax, cx, rfl⟩ := own_len hox
  obtain ⟨Ay, cy, rfl⟩ := own_len hoy
  obtain ⟨W0, hW0⟩ : ∃ W0, W0 = ((w.alloc (.cells #[.bool x.1, .slice Ax x.2.length cx] 29)).alloc (.cells #[.bool y.1, .slice Ay y.2.length cy] 29)).alloc (.cells #[.bool false, .slice none 0 0] 29) := ⟨_, rfl⟩
  have hbb : Below w.heap.size w W0 := by rw [hW0]; exact below_al (below_al (below_al (Below.refl _ _) _) _) _
  have h3 := alloc3 w (.cells #[.bool x.1, .slice Ax x.2.length cx] 29) (.cells #[.bool y.1, .slice Ay y.2.length cy] 29) (.cells #[.bool false, .slice none 0 0] 29)
  rw [← hW0] at h3
  have kx : At [w.heap.size] (BoxAt w.heap.size #[.bool x.1, .slice Ax x.2.length cx] 29) W0 := box_at h3.1
  have ky : At [w.heap.size + 1] (BoxAt (w.heap.size + 1) #[.bool y.1, .slice Ay y.2.length cy] 29) W0 := box_at h3.2.1
  have kr : At [w.heap.size + 1 + 1] (BoxAt (w.heap.size + 1 + 1) #[.bool false, .slice none 0 0] 29) W0 := box_at h3.2.2.1
  have atx := own_at hox
  have aty := own_at hoy
  have ltx := atx.lt
  have lty := aty.lt
  have OFx := Lib.hid (show ∀ W, Chg [w.heap.size + 1 + 1] W0 W → OwnI (.slice Ax x.2.length cx) x.2 W from fun W hc => ((atx.below hbb).chg hc (fun i hi hm => by have := ltx i hi; simp at hm; omega)).here)
  have OFy := Lib.hid (show ∀ W, Chg [w.heap.size + 1 + 1] W0 W → OwnI (.slice Ay y.2.length cy) y.2 W from fun W hc => ((aty.below hbb).chg hc (fun i hi hm => by have := lty i hi; simp at hm; omega)).here)
  have KL := Lib.hid (show ∀ W, Chg [w.heap.size + 1 + 1] W0 W → W.cell? ⟨w.heap.size, 0, none⟩ = some (.bool x.1) ∧ W.cell? ⟨w.heap.size, 1, none⟩ = some (.slice Ax x.2.length cx) ∧ W.cell? ⟨w.heap.size + 1, 0, none⟩ = some (.bool y.1) ∧ W.cell? ⟨w.heap.size + 1, 1, none⟩ = some (.slice Ay y.2.length cy) ∧ Hid (Chg [w.heap.size + 1 + 1] W0 W) from
    fun W hc => ⟨(kx.chg hc (fun i hi hm => by simp at hi hm; omega)).here.cell 0 _ rfl, (kx.chg hc (fun i hi hm => by simp at hi hm; omega)).here.cell 1 _ rfl, (ky.chg hc (fun i hi hm => by simp at hi hm; omega)).here.cell 0 _ rfl, (ky.chg hc (fun i hi hm => by simp at hi hm; omega)).here.cell 1 _ rfl, Lib.hid hc⟩)
  have HW := Lib.hid hW0
  have RDx := (OwnS.mk (x := x) (OFx.out W0 (Chg.refl _ _))).rd
  have RDy := Lib.hid (show ∀ W, Below W0.heap.size W0 W → RdS W (.agg #[.bool y.1, .slice Ay y.2.length cy]) y from fun W hb => (OwnS.mk (x := y) (OFy.out W (Chg.of_below hb))).rd)
  have cx0 := kx.here.cell 0 _ rfl
  have cx1 := kx.here.cell 1 _ rfl
  have cy0 := ky.here.cell 0 _ rfl
  have cy1 := ky.here.cell 1 _ rfl
  have frz := Lib.frozen_of_heap kr.here
  clear h3 atx aty ltx lty hW0 hox hoy
  by_cases okx : okS x = true
  · by_cases oky : okS y = true
    · have px := okS_parts okx
      have py := okS_parts oky
      have HV := Lib.hid (show mulS x y = ofZ (valS x * valS y) by unfold mulS; rw [if_pos ⟨okx, oky⟩])
      have HPX := Lib.hid px.1
      have HPY := Lib.hid py.1
      have HMK := Lib.hid (fun L (hL : trimL L = limbs (nval x.2 * nval y.2).toNat) => mk_mul (n := x.1) (m := y.1) (L := L) hL px.1 py.1)
      clear px py
      go_enter Try.func33, Try.ntmps33
      go_wp2_with fail
      rw [← HW.out]
      refine (specIntOk_any _ x W0 hlx RDx).mono ?_
      rintro e w1 ⟨rfl, b1⟩
      rw [okx]
      have bb1 := Below.next hbb b1
      replace kx := kx.below b1
      replace ky := ky.below b1
      replace kr := kr.below b1
      clear cx0 cx1 cy0 cy1
      have cx0 := kx.here.cell 0 _ rfl
      have cx1 := kx.here.cell 1 _ rfl
      have cy0 := ky.here.cell 0 _ rfl
      have cy1 := ky.here.cell 1 _ rfl
      go_wp2_with fail
      refine (specIntOk_any _ y w1 hly (RDy.out w1 b1)).mono ?_
      rintro e w2 ⟨rfl, b2⟩
      rw [oky]
      have bb2 := Below.next bb1 b2
      have b02 := Below.next b1 b2
      replace kx := kx.below b2
      replace ky := ky.below b2
      replace kr := kr.below b2
      clear cx0 cx1 cy0 cy1
      have cx0 := kx.here.cell 0 _ rfl
      have cx1 := kx.here.cell 1 _ rfl
      have cy0 := ky.here.cell 0 _ rfl
      have cy1 := ky.here.cell 1 _ rfl
      go_wp2_with fail
      have KF := Lib.hid (show ∀ W, Chg [w.heap.size + 1 + 1] w2 W → Chg [w.heap.size + 1 + 1] W0 W from fun W hc => (Chg.of_below b02).trans hc)
      clear cx0 cx1 cy0 cy1
      go_region_held3 (fun W => W.cell? ⟨w.heap.size, 0, none⟩ = some (.bool x.1) ∧ W.cell? ⟨w.heap.size, 1, none⟩ = some (.slice Ax x.2.length cx) ∧ W.cell? ⟨w.heap.size + 1, 0, none⟩ = some (.bool y.1) ∧ W.cell? ⟨w.heap.size + 1, 1, none⟩ = some (.slice Ay y.2.length cy) ∧ Hid (Chg [w.heap.size + 1 + 1] W0 W))
        ((refine KL.out _ ?_; (first | exact HC2.out | exact HC1.out | exact (Chg.setCell (Chg.setCell HC2.out (by simp) _) (by simp) _) | exact KF.out _ ⟨rfl, rfl, rfl, Nat.le_refl _, fun _ _ _ => rfl⟩ | fail)))
        (first
          | (go_at_call 43; (have hBB := (‹_ ∧ _ ∧ _ ∧ _ ∧ Hid (Chg [w.heap.size + 1 + 1] W0 _)›).2.2.2.2); (with_reducible refine (l02Mul_ok _ _ x.2 y.2 _ HPX.out HPY.out (OFx.out _ hBB.out).row (OFy.out _ hBB.out).row).mono ?_); rintro e w3' ⟨L, hL1, hL2, u3', rfl, o3', b3'⟩; have HL1 := Lib.hid hL1; clear hL1; have HC1 := Lib.hid (hBB.out.trans (Chg.of_below b3')); (have kr3 := At.behind kr b3' rfl); (have bb3' := Below.next (show Below w.heap.size w w2.drew from bb2.drew) b3'); obtain ⟨A3', c3', rfl⟩ := own_len o3'; clear hBB)
          | (go_at_call 24; (have hBB := (‹_ ∧ _ ∧ _ ∧ _ ∧ Hid (Chg [w.heap.size + 1 + 1] W0 _)›).2.2.2.2); (with_reducible refine (l04Make_any _ _ L _ _ (by omega) o3').mono ?_); rintro e w3 ⟨u3, rfl, o3, b3⟩; have HC2 := Lib.hid (hBB.out.trans (Chg.of_below b3)); (have kr4 := kr3.below b3); (have bb3 := Below.next bb3' b3); (have cz0 := kr4.here.cell 0 _ rfl); (have cz1 := kr4.here.cell 1 _ rfl); (have fz0 := Lib.frozen_of_heap kr4.here 0); (have fz1 := Lib.frozen_of_heap kr4.here 1); obtain ⟨A3, c3, rfl⟩ := own_len o3; clear hBB))
      have HO := Lib.hid o3
      have HBB := Lib.hid bb3
      have HK := Lib.hid kr4
      have HZ := Lib.hid bb3'.size
      clear o3 bb3 kr kr3 kr4 kx ky o3' b3' b3
      go_wp2
      refine bodyPost_ret (v := .agg #[.bool _, .slice A3 _ c3]) (by simp [results, Try.results33, go_sem, cz0, cz1]; exact ⟨rfl, rfl⟩) rfl ?_
      rw [HV.out, ← HMK.out L HL1.out]
      exact newS_ret HK.out.here HO.out HZ.out (by omega) HBB.out
    · have oky2 : okS y = false := by simpa using oky
      have HV := Lib.hid (show mulS x y = zeroS by unfold mulS; rw [if_neg (fun h => oky h.2)])
      clear oky
      go_enter Try.func33, Try.ntmps33
      go_wp2_with fail
      rw [← HW.out]
      refine (specIntOk_any _ x W0 hlx RDx).mono ?_
      rintro e w1 ⟨rfl, b1⟩
      rw [okx]
      have bb1 := Below.next hbb b1
      replace kx := kx.below b1
      replace ky := ky.below b1
      replace kr := kr.below b1
      clear cx0 cx1 cy0 cy1
      have cx0 := kx.here.cell 0 _ rfl
      have cx1 := kx.here.cell 1 _ rfl
      have cy0 := ky.here.cell 0 _ rfl
      have cy1 := ky.here.cell 1 _ rfl
      go_wp2_with fail
      refine (specIntOk_any _ y w1 hly (RDy.out w1 b1)).mono ?_
      rintro e w2 ⟨rfl, b2⟩
      rw [oky2]
      have bb2 := Below.next bb1 b2
      replace kr := kr.below b2
      clear cx0 cx1 cy0 cy1
      have cz0 := kr.here.cell 0 _ rfl
      have cz1 := kr.here.cell 1 _ rfl
      have fz0 := Lib.frozen_of_heap kr.here 0
      have fz1 := Lib.frozen_of_heap kr.here 1
      have HBB := Lib.hid bb2
      clear kx ky kr
      go_wp2
      refine bodyPost_ret (v := .agg #[.bool false, .slice none 0 0]) (by simp [results, Try.results33, go_sem, cz0, cz1]) rfl ?_
      rw [HV.out]
      exact newS_zero (below_set2 HBB.out (by omega))
  · have okx2 : okS x = false := by simpa using okx
    have HV := Lib.hid (show mulS x y = zeroS by unfold mulS; rw [if_neg (fun h => okx h.1)])
    clear okx
    go_enter Try.func33, Try.ntmps33
    go_wp2_with fail
    rw [← HW.out]
    refine (specIntOk_any _ x W0 hlx RDx).mono ?_
    rintro e w1 ⟨rfl, b1⟩
    rw [okx2]
    have bb1 := Below.next hbb b1
    replace kx := kx.below b1
    replace ky := ky.below b1
    replace kr := kr.below b1
    clear cx0 cx1 cy0 cy1
    have cz0 := kr.here.cell 0 _ rfl
    have cz1 := kr.here.cell 1 _ rfl
    have fz0 := Lib.frozen_of_heap kr.here 0
    have fz1 := Lib.frozen_of_heap kr.here 1
    have HBB := Lib.hid bb1
    clear kx ky kr
    go_wp2
    refine bodyPost_ret (v := .agg #[.bool false, .slice none 0 0]) (by simp [results, Try.results33, go_sem, cz0, cz1]) rfl ?_
    rw [HV.out]
    exact newS_zero (below_set2 HBB.out (by omega))
end Go.Proofs.Ytofehcpapdlcnaa
