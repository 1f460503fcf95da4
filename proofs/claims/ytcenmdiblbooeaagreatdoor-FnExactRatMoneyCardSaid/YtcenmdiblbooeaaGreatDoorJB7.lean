/-
  Chapter 5 of package impl: sums and differences.
  Chapter 6 of package impl: the methods of operands.
  Chapter 6 of package impl: RatAdd, RatSub, RatMul and RatDiv.
  Chapter 5 of package impl: the signed number of an int.
  Chapter 6 of package impl: RatInt, RatZero, RatNeg, RatCmp and RatSign.
  What NatEven of package impl returns.
  A quotient that is rounded: its limbs, whatever the sizes.
-/
import Derived.Deep.RegionHeld3
import Derived.Deep.DeepCutAuto
import Derived.Deep.LoopGhost
import Derived.Test.YtcenmdiblbooeaaGreatDoorJB6
namespace Go.Proofs.YtcenmdiblbooeaaGreatDoor
open Go.RowKit

theorem At.belowB {S : List Nat} {φ : World → Prop} {w w' : World} {B : Nat} (h : At S φ w) (hb : Below B w w') (hS : ∀ g ∈ S, g < B) : At S φ w' := h.move (fun g hg => hb.block g (hS g hg)) hb.size
theorem add_mk {P Q : SI} (okp : okS P = true) (okq : okS Q = true) (hs : P.1 = Q.1) : mkS P.1 (limbs (nval P.2 + nval Q.2).toNat) = ofZ (valS P + valS Q) := by
  have h0p := nval_ok (okS_parts okp).1
  have h0q := nval_ok (okS_parts okq).1
  rw [mkS_limbs]
  congr 1
  unfold valS
  rw [← hs]
  split <;> omega
theorem sub_mk {P Q : SI} (okp : okS P = true) (okq : okS Q = true) (hs : ¬ P.1 = Q.1) (hle : nval Q.2 ≤ nval P.2) : mkS P.1 (limbs (nval P.2 - nval Q.2).toNat) = ofZ (valS P + valS Q) := by
  have h0p := nval_ok (okS_parts okp).1
  have h0q := nval_ok (okS_parts okq).1
  rw [mkS_limbs]
  congr 1
  unfold valS
  cases hp : P.1 <;> cases hq : Q.1 <;> simp_all <;> omega
theorem addS_ok {x y : SI} (okx : okS x = true) (oky : okS y = true) : addS x y = ofZ (valS x + valS y) := by unfold addS; rw [if_pos ⟨okx, oky⟩]
theorem swap_box {g : Nat} {a b : Value} {c0 c1 : Value} {W : World} (h : BoxAt g #[c0, c1] 25 W) : BoxAt g #[a, b] 25 ((W.setCell ⟨g, 0, none⟩ a).setCell ⟨g, 1, none⟩ b) := by
  have h' : W.heap[g]? = some (.cells #[c0, c1] 25 (0, 0)) := h
  simp [BoxAt, World.setCell, Array.getElem?_modify, h']

theorem NatX.drew1 {K : NatK} {B b : Nat} {xs : List Int} {w : World} (h : NatX K B b xs w) : NatX K B b xs w.drew := h
theorem Row.drew1 {w : World} {lo hi : Nat} {v : Value} {xs : List Value} (h : Row w lo hi v xs) : Row w.drew lo hi v xs := h
theorem natAdd_any {K : NatK} (B b : Nat) (xs : List Int) (vy : Value) (ys : List Int) (lo hi : Nat) (w : World) (oa : natOkB xs = true) (ob : natOkB ys = true) (hhi : hi ≤ B) (hr : Row w lo hi vy (intsV ys)) (h : NatX K B b xs w) :
    Calls Tryz.prog 115 #[.pointer (some ⟨b, 0, none⟩), vy, .int .i64 1, .int .i64 0] w fun e w' => e = .returned (.tuple #[]) ∧ LeftX K B b (limbs (nval xs + nval ys).toNat) w w' := by
  have pa := natOk_parts oa
  have pb := natOk_parts ob
  refine (addTimes_any B b xs vy ys lo hi 1 0 w (by omega) (by omega) (by omega) (by omega) (by omega) pa.1 pb.1 hhi hr h).mono ?_
  rintro e w' ⟨rfl, zs, hl, hd, hv, hlen⟩
  rw [← add_limbs oa ob hd hv hlen]
  exact ⟨rfl, hl⟩
theorem nval_b50 {xs : List Int} (h : natOkB xs = true) : nval xs < bp 50 := by
  have p := natOk_parts h
  have h1 := nval_lt xs p.1
  have h2 := bp_mono p.2.1
  omega
theorem sum_short {xs ys : List Int} (oa : natOkB xs = true) (ob : natOkB ys = true) : (limbs (nval xs + nval ys).toNat).length ≤ 1048576 := by
  have h1 := nval_b50 oa
  have h2 := nval_b50 ob
  have h3 := nval_ok oa
  have h4 := nval_ok ob
  have e : bp 51 = 1000000000 * bp 50 := rfl
  have h5 := bp_pos 50
  have h6 := limbs_length_le (nval xs + nval ys).toNat 51 (by rw [Int.toNat_of_nonneg (by omega)]; omega)
  omega
theorem dif_short {xs ys : List Int} (oa : natOkB xs = true) (ob : natOkB ys = true) (hle : nval ys ≤ nval xs) : (limbs (nval xs - nval ys).toNat).length ≤ 1048576 := by
  have h1 := nval_b50 oa
  have h4 := nval_ok ob
  have h6 := limbs_length_le (nval xs - nval ys).toNat 50 (by rw [Int.toNat_of_nonneg (by omega)]; omega)
  omega
theorem below_low {B C : Nat} {w w1 w2 : World} (h : Below B w w1) (k : Below C w1 w2) (hB : B ≤ C) : Below B w w2 :=
  ⟨k.os.trans h.os, k.tape.trans h.tape, k.output.trans h.output, Nat.le_trans h.size k.size, fun i hi => (k.block i (by omega)).trans (h.block i hi)⟩
set_option maxHeartbeats 4000000 in
set_option maxRecDepth 100000 in
theorem implIntAdd_any (vx vy : Value) (x y : SI) (w : World) (hlx : x.2.length ≤ 1048576) (hly : y.2.length ≤ 1048576) (hx : OwnS vx x w) (hy : OwnS vy y w) :
    Calls Tryz.prog 84 #[vx, vy] w (NewS (addS x y) w) := by
  obtain ⟨ux, rfl, hox⟩ := hx
  obtain ⟨uy, rfl, hoy⟩ := hy
  obtain ⟨Ax, cx, rfl⟩ := own_len hox
  obtain ⟨Ay, cy, rfl⟩ := own_len hoy
  obtain ⟨W0, hW0⟩ : ∃ W0, W0 = ((w.alloc (.cells #[.bool x.1, .slice Ax x.2.length cx] 25)).alloc (.cells #[.bool y.1, .slice Ay y.2.length cy] 25)).alloc (.cells #[.bool false, .slice none 0 0] 25) := ⟨_, rfl⟩
  have hbb : Below w.heap.size w W0 := by rw [hW0]; exact below_al (below_al (below_al (Below.refl _ _) _) _) _
  have h3 := alloc3 w (.cells #[.bool x.1, .slice Ax x.2.length cx] 25) (.cells #[.bool y.1, .slice Ay y.2.length cy] 25) (.cells #[.bool false, .slice none 0 0] 25)
  rw [← hW0] at h3
  have kx : At [w.heap.size] (BoxAt w.heap.size #[.bool x.1, .slice Ax x.2.length cx] 25) W0 := box_at h3.1
  have ky : At [w.heap.size + 1] (BoxAt (w.heap.size + 1) #[.bool y.1, .slice Ay y.2.length cy] 25) W0 := box_at h3.2.1
  have kr : At [w.heap.size + 1 + 1] (BoxAt (w.heap.size + 1 + 1) #[.bool false, .slice none 0 0] 25) W0 := box_at h3.2.2.1
  have ox := own_below hox hbb
  have oy := own_below hoy hbb
  have rdx := (OwnS.mk (x := x) (ownI_of ox)).rd
  have HW := Lib.hid hW0
  have cx0 := kx.here.cell 0 _ rfl
  have cx1 := kx.here.cell 1 _ rfl
  clear h3 hox hoy hW0
  by_cases okx : okS x = true
  · go_enter Tryz.func84, Tryz.ntmps84
    go_wp2_with fail
    rw [← HW.out]
    refine (implIntOk_any _ x _ hlx rdx).mono ?_
    rintro e w1 ⟨rfl, b1⟩
    rw [okx]
    have bb1 := Below.next hbb b1
    replace kx := kx.below b1
    replace ky := ky.below b1
    replace kr := kr.below b1
    replace ox := own_below ox b1
    replace oy := own_below oy b1
    have cy0 := ky.here.cell 0 _ rfl
    have cy1 := ky.here.cell 1 _ rfl
    clear rdx cx0 cx1
    go_wp2_with fail
    refine (implIntOk_any _ y w1 hly (OwnS.mk (x := y) (ownI_of oy)).rd).mono ?_
    rintro e w2 ⟨rfl, b2⟩
    have bb2 := Below.next bb1 b2
    replace kx := kx.below b2
    replace ky := ky.below b2
    replace kr := kr.below b2
    replace ox := own_below ox b2
    replace oy := own_below oy b2
    clear cy0 cy1
    by_cases oky : okS y = true
    · rw [oky]
      have HZ := Lib.hid (addS_ok okx oky).symm
      have OKX := Lib.hid okx
      have OKY := Lib.hid oky
      have px := okS_parts okx
      have py := okS_parts oky
      have Nx := Lib.hid px.1
      have Ny := Lib.hid py.1
      have Dx := Lib.hid (natOk_parts px.1)
      have Dy := Lib.hid (natOk_parts py.1)
      have hlx5 := Dx.out.2.1
      have hly5 := Dy.out.2.1
      have cx0 := kx.here.cell 0 _ rfl
      have cx1 := kx.here.cell 1 _ rfl
      have cy0 := ky.here.cell 0 _ rfl
      have cy1 := ky.here.cell 1 _ rfl
      have rx := (ownI_of ox).row
      have ry := (ownI_of oy).row
      have hlt2 : w.heap.size + 1 + 1 < w2.heap.size := kr.lt _ (by simp)
      clear okx oky px py b1 b2
      go_upto_region 3 with fail
      go_wp2_with fail
      refine (compareLimbs_any _ _ x.2 y.2 0 _ 0 _ w2 (by omega) (by omega) ⟨Dx.out.1, Dx.out.2.2⟩ ⟨Dy.out.1, Dy.out.2.2⟩ rx ry).mono ?_
      rintro e w' ⟨rfl, q, rfl⟩
      clear cx0 cx1 cy0 cy1
      obtain ⟨W3, hW3⟩ : ∃ W3, W3 = w2.drewN q := ⟨_, rfl⟩
      have b3 : Below w2.heap.size w2 W3 := by rw [hW3]; exact below_drewN (Below.refl _ _) q
      have bb3 := Below.next bb2 b3
      have hlt3 : w.heap.size + 1 + 1 < W3.heap.size := by rw [hW3]; exact hlt2
      replace kx := kx.below b3
      replace ky := ky.below b3
      replace kr := kr.below b3
      replace ox := own_below ox b3
      replace oy := own_below oy b3
      rw [← hW3]
      clear rx ry b3 hW3 bb1 bb2 hlt2
      by_cases hle : nval y.2 ≤ nval x.2
      · have hz : 0 ≤ cmpI (nval x.2) (nval y.2) := by unfold cmpI; split <;> (try split) <;> omega
        have HLE := Lib.hid hle
        have OKP := OKX
        have OKQ := OKY
        have NP := Nx
        have NQ := Ny
        generalize cmpI (nval x.2) (nval y.2) = z at *
        have hzb : decide (z < 0) = false := decide_eq_false (by omega)
        clear hz hle
        obtain ⟨kP, kQ, oP, oQ⟩ : _ ∧ _ ∧ _ ∧ _ := ⟨kx, ky, ox, oy⟩
        clear kx ky ox oy
        -- P: the greater magnitude
        have rdP := (OwnS.mk (x := x) (ownI_of oP)).rd
        have cp0 := kP.here.cell 0 _ rfl
        have cp1 := kP.here.cell 1 _ rfl
        go_wp2_with fail
        refine (copyInt_any _ x W3 (by omega) rdP).mono ?_
        rintro e w4 ⟨b, rfl, hnx, b4⟩
        have bb4 := Below.next bb3 b4
        have hrQ : Row w4 0 W3.heap.size (.slice Ay y.2.length cy) (intsV y.2) := (ownI_of oQ).row.below b4 (Nat.le_refl _)
        replace kP := kP.below b4
        replace kQ := kQ.below b4
        replace kr := kr.below b4
        clear cp0 cp1 rdP oP oQ
        have cp0 := kP.here.cell 0 _ rfl
        have cq0 := kQ.here.cell 0 _ rfl
        have cq1 := kQ.here.cell 1 _ rfl
        have HKQ := Lib.hid kQ
        have HKR := Lib.hid kr
        have HNX := Lib.hid hnx
        have HRQ := Lib.hid hrQ
        have hsz3 : w.heap.size + 1 + 1 < W3.heap.size := hlt3
        clear kP kQ kr hnx hrQ
        by_cases hs : x.1 = y.1
        · have hsb : (x.1 == y.1) = true := by rw [hs]; simp
          have HV := Lib.hid ((add_mk OKP.out OKQ.out hs).trans HZ.out)
          clear hs HZ
          go_upto_region 9 with fail
          go_cut [] (fun wx => Hid (NatX (intK x.1) W3.heap.size b (limbs (nval x.2 + nval y.2).toNat) wx) ∧ Below W3.heap.size w4 wx)
          case first =>
            go_wp2_with fail
            go_region_with (go_at_call 115; refine (natAdd_any W3.heap.size b x.2 _ y.2 0 W3.heap.size _ NP.out NQ.out (Nat.le_refl _) HRQ.out.drew1 HNX.out.drew1).mono ?_; rintro e w5 ⟨rfl, hp5⟩; have H5 := Lib.hid hp5; clear hp5)
            all_goals
              go_wp2_with fail
              go_meet
              exact ⟨Lib.hid H5.out.1, (Below.drew1 (Below.refl _ _)).trans H5.out.2⟩
          rename World => w6
          obtain ⟨HX, b6⟩ := hcut
          have bb6 := below_low bb4 b6 (by omega)
          have kr6 := HKR.out.belowB b6 (fun g hg => by simp at hg; omega)
          clear cp0 cq0 cq1
          go_wp2_with fail
          refine (signed_any _ _ b _ _ (sum_short NP.out NQ.out) HX.out).mono ?_
          rw [HV.out]
          rintro e w7 ⟨u7, rfl, o7, b7⟩
          generalize addS x y = z7 at *
          obtain ⟨A7, c7, rfl⟩ := own_len o7
          have bb7 := Below.next bb6 b7
          have kr7 := kr6.below b7
          have cz0 := kr7.here.cell 0 _ rfl
          have cz1 := kr7.here.cell 1 _ rfl
          have fz0 := Lib.frozen_of_heap kr7.here 0
          have fz1 := Lib.frozen_of_heap kr7.here 1
          have HO := Lib.hid o7
          have HK := Lib.hid kr7
          clear o7 kr6 kr7 HX HV
          go_wp2
          refine bodyPost_ret (v := .agg #[.bool _, .slice A7 _ c7]) (by simp [results, Tryz.results84, go_sem, cz0, cz1]; exact ⟨rfl, rfl⟩) rfl ?_
          exact newS_ret HK.out.here HO.out (by omega) (by omega) bb7
        · have hsb : (x.1 == y.1) = false := by rw [beq_eq_false_iff_ne]; exact hs
          have HV := Lib.hid ((sub_mk OKP.out OKQ.out hs HLE.out).trans HZ.out)
          clear hs HZ
          go_upto_region 9 with fail
          go_cut [] (fun wx => Hid (NatX (intK x.1) W3.heap.size b (limbs (nval x.2 - nval y.2).toNat) wx) ∧ Below W3.heap.size w4 wx)
          case first =>
            go_wp2_with fail
            go_region_with (go_at_call 119; refine (natTake_any W3.heap.size b x.2 _ y.2 0 W3.heap.size _ (by omega) (lens_of_le NP.out NQ.out HLE.out) (natOk_parts NP.out).1 (natOk_parts NQ.out).1 HLE.out (Nat.le_refl _) HRQ.out.drew1 HNX.out.drew1).mono ?_; rintro e w5 ⟨rfl, hp5⟩; have H5 := Lib.hid hp5; clear hp5)
            all_goals
              go_wp2_with fail
              go_meet
              exact ⟨Lib.hid H5.out.1, (Below.drew1 (Below.refl _ _)).trans H5.out.2⟩
          rename World => w6
          obtain ⟨HX, b6⟩ := hcut
          have bb6 := below_low bb4 b6 (by omega)
          have kr6 := HKR.out.belowB b6 (fun g hg => by simp at hg; omega)
          clear cp0 cq0 cq1
          go_wp2_with fail
          refine (signed_any _ _ b _ _ (dif_short NP.out NQ.out HLE.out) HX.out).mono ?_
          rw [HV.out]
          rintro e w7 ⟨u7, rfl, o7, b7⟩
          generalize addS x y = z7 at *
          obtain ⟨A7, c7, rfl⟩ := own_len o7
          have bb7 := Below.next bb6 b7
          have kr7 := kr6.below b7
          have cz0 := kr7.here.cell 0 _ rfl
          have cz1 := kr7.here.cell 1 _ rfl
          have fz0 := Lib.frozen_of_heap kr7.here 0
          have fz1 := Lib.frozen_of_heap kr7.here 1
          have HO := Lib.hid o7
          have HK := Lib.hid kr7
          clear o7 kr6 kr7 HX HV
          go_wp2
          refine bodyPost_ret (v := .agg #[.bool _, .slice A7 _ c7]) (by simp [results, Tryz.results84, go_sem, cz0, cz1]; exact ⟨rfl, rfl⟩) rfl ?_
          exact newS_ret HK.out.here HO.out (by omega) (by omega) bb7
      · have hz : cmpI (nval x.2) (nval y.2) < 0 := by unfold cmpI; rw [if_pos (by omega)]; omega
        have hle2 : nval x.2 ≤ nval y.2 := by omega
        have HLE := Lib.hid hle2
        have OKP := OKY
        have OKQ := OKX
        have NP := Ny
        have NQ := Nx
        replace HZ : Hid (ofZ (valS y + valS x) = addS x y) := Lib.hid (by rw [Int.add_comm]; exact HZ.out)
        generalize cmpI (nval x.2) (nval y.2) = z at *
        have hzb : decide (z < 0) = true := decide_eq_true hz
        clear hz hle hle2
        have cx0 := kx.here.cell 0 _ rfl
        have cx1 := kx.here.cell 1 _ rfl
        have cy0 := ky.here.cell 0 _ rfl
        have cy1 := ky.here.cell 1 _ rfl
        have fx0 := Lib.frozen_of_heap kx.here 0
        have fx1 := Lib.frozen_of_heap kx.here 1
        have fy0 := Lib.frozen_of_heap ky.here 0
        have fy1 := Lib.frozen_of_heap ky.here 1
        have HKX := Lib.hid kx
        have HKY := Lib.hid ky
        clear kx ky
        go_upto_region 5 with fail
        obtain ⟨V3, hV3⟩ : ∃ V3, V3 = (((W3.setCell ⟨w.heap.size, 0, none⟩ (.bool y.1)).setCell ⟨w.heap.size, 1, none⟩ (.slice Ay y.2.length cy)).setCell ⟨w.heap.size + 1, 0, none⟩ (.bool x.1)).setCell ⟨w.heap.size + 1, 1, none⟩ (.slice Ax x.2.length cx) := ⟨_, rfl⟩
        rw [← hV3]
        have hsame : ∀ i, i ≠ w.heap.size → i ≠ w.heap.size + 1 → V3.heap[i]? = W3.heap[i]? := fun i h1 h2 => by
          rw [hV3, Below.heap_setCell _ _ _ _ h2, Below.heap_setCell _ _ _ _ h2, Below.heap_setCell _ _ _ _ h1, Below.heap_setCell _ _ _ _ h1]
        have hsize : V3.heap.size = W3.heap.size := by rw [hV3]; simp [World.setCell]
        have hnx0 := Lib.ownBlock_ne ox HKX.out.here (by decide)
        have hnx1 := Lib.ownBlock_ne ox HKY.out.here (by decide)
        have hny0 := Lib.ownBlock_ne oy HKX.out.here (by decide)
        have hny1 := Lib.ownBlock_ne oy HKY.out.here (by decide)
        have oP : V3.ownsRow 0 3 1 (.slice Ay y.2.length cy) y.2.length (intsV y.2) := own_stays (own_zero oy) fun i hi => hsame i (fun e => hny0 (by rw [hi, e])) (fun e => hny1 (by rw [hi, e]))
        have oQ : V3.ownsRow 0 3 1 (.slice Ax x.2.length cx) x.2.length (intsV x.2) := own_stays (own_zero ox) fun i hi => hsame i (fun e => hnx0 (by rw [hi, e])) (fun e => hnx1 (by rw [hi, e]))
        have kP : At [w.heap.size] (BoxAt w.heap.size #[.bool y.1, .slice Ay y.2.length cy] 25) V3 := box_at (by
          show V3.heap[w.heap.size]? = _
          rw [hV3, Below.heap_setCell _ _ _ _ (by simp), Below.heap_setCell _ _ _ _ (by simp)]
          exact swap_box HKX.out.here)
        have kQ : At [w.heap.size + 1] (BoxAt (w.heap.size + 1) #[.bool x.1, .slice Ax x.2.length cx] 25) V3 := box_at (by
          rw [hV3]
          refine swap_box (c0 := .bool y.1) (c1 := .slice Ay y.2.length cy) ?_
          show (World.heap _)[w.heap.size + 1]? = _
          rw [Below.heap_setCell _ _ _ _ (by simp), Below.heap_setCell _ _ _ _ (by simp)]
          exact HKY.out.here)
        replace kr : At [w.heap.size + 1 + 1] (BoxAt (w.heap.size + 1 + 1) #[.bool false, .slice none 0 0] 25) V3 := kr.move (fun g hg => by simp at hg; subst hg; exact hsame _ (by omega) (by omega)) (by omega)
        replace bb3 : Below w.heap.size w V3 := by rw [hV3]; exact below_set2 (below_set2 bb3 (Nat.le_refl _)) (by omega)
        replace hlt3 : w.heap.size + 1 + 1 < V3.heap.size := by omega
        clear hV3 hsame hsize hnx0 hnx1 hny0 hny1 ox oy cx0 cx1 cy0 cy1 fx0 fx1 fy0 fy1 HKX HKY
        -- P: the greater magnitude
        have rdP := (OwnS.mk (x := y) (ownI_of oP)).rd
        have cp0 := kP.here.cell 0 _ rfl
        have cp1 := kP.here.cell 1 _ rfl
        go_wp2_with fail
        refine (copyInt_any _ y V3 (by omega) rdP).mono ?_
        rintro e w4 ⟨b, rfl, hnx, b4⟩
        have bb4 := Below.next bb3 b4
        have hrQ : Row w4 0 V3.heap.size (.slice Ax x.2.length cx) (intsV x.2) := (ownI_of oQ).row.below b4 (Nat.le_refl _)
        replace kP := kP.below b4
        replace kQ := kQ.below b4
        replace kr := kr.below b4
        clear cp0 cp1 rdP oP oQ
        have cp0 := kP.here.cell 0 _ rfl
        have cq0 := kQ.here.cell 0 _ rfl
        have cq1 := kQ.here.cell 1 _ rfl
        have HKQ := Lib.hid kQ
        have HKR := Lib.hid kr
        have HNX := Lib.hid hnx
        have HRQ := Lib.hid hrQ
        have hsz3 : w.heap.size + 1 + 1 < V3.heap.size := hlt3
        clear kP kQ kr hnx hrQ
        by_cases hs : y.1 = x.1
        · have hsb : (y.1 == x.1) = true := by rw [hs]; simp
          have HV := Lib.hid ((add_mk OKP.out OKQ.out hs).trans HZ.out)
          clear hs HZ
          go_upto_region 9 with fail
          go_cut [] (fun wx => Hid (NatX (intK y.1) V3.heap.size b (limbs (nval y.2 + nval x.2).toNat) wx) ∧ Below V3.heap.size w4 wx)
          case first =>
            go_wp2_with fail
            go_region_with (go_at_call 115; refine (natAdd_any V3.heap.size b y.2 _ x.2 0 V3.heap.size _ NP.out NQ.out (Nat.le_refl _) HRQ.out.drew1 HNX.out.drew1).mono ?_; rintro e w5 ⟨rfl, hp5⟩; have H5 := Lib.hid hp5; clear hp5)
            all_goals
              go_wp2_with fail
              go_meet
              exact ⟨Lib.hid H5.out.1, (Below.drew1 (Below.refl _ _)).trans H5.out.2⟩
          rename World => w6
          obtain ⟨HX, b6⟩ := hcut
          have bb6 := below_low bb4 b6 (by omega)
          have kr6 := HKR.out.belowB b6 (fun g hg => by simp at hg; omega)
          clear cp0 cq0 cq1
          go_wp2_with fail
          refine (signed_any _ _ b _ _ (sum_short NP.out NQ.out) HX.out).mono ?_
          rw [HV.out]
          rintro e w7 ⟨u7, rfl, o7, b7⟩
          generalize addS x y = z7 at *
          obtain ⟨A7, c7, rfl⟩ := own_len o7
          have bb7 := Below.next bb6 b7
          have kr7 := kr6.below b7
          have cz0 := kr7.here.cell 0 _ rfl
          have cz1 := kr7.here.cell 1 _ rfl
          have fz0 := Lib.frozen_of_heap kr7.here 0
          have fz1 := Lib.frozen_of_heap kr7.here 1
          have HO := Lib.hid o7
          have HK := Lib.hid kr7
          clear o7 kr6 kr7 HX HV
          go_wp2
          refine bodyPost_ret (v := .agg #[.bool _, .slice A7 _ c7]) (by simp [results, Tryz.results84, go_sem, cz0, cz1]; exact ⟨rfl, rfl⟩) rfl ?_
          exact newS_ret HK.out.here HO.out (by omega) (by omega) bb7
        · have hsb : (y.1 == x.1) = false := by rw [beq_eq_false_iff_ne]; exact hs
          have HV := Lib.hid ((sub_mk OKP.out OKQ.out hs HLE.out).trans HZ.out)
          clear hs HZ
          go_upto_region 9 with fail
          go_cut [] (fun wx => Hid (NatX (intK y.1) V3.heap.size b (limbs (nval y.2 - nval x.2).toNat) wx) ∧ Below V3.heap.size w4 wx)
          case first =>
            go_wp2_with fail
            go_region_with (go_at_call 119; refine (natTake_any V3.heap.size b y.2 _ x.2 0 V3.heap.size _ (by omega) (lens_of_le NP.out NQ.out HLE.out) (natOk_parts NP.out).1 (natOk_parts NQ.out).1 HLE.out (Nat.le_refl _) HRQ.out.drew1 HNX.out.drew1).mono ?_; rintro e w5 ⟨rfl, hp5⟩; have H5 := Lib.hid hp5; clear hp5)
            all_goals
              go_wp2_with fail
              go_meet
              exact ⟨Lib.hid H5.out.1, (Below.drew1 (Below.refl _ _)).trans H5.out.2⟩
          rename World => w6
          obtain ⟨HX, b6⟩ := hcut
          have bb6 := below_low bb4 b6 (by omega)
          have kr6 := HKR.out.belowB b6 (fun g hg => by simp at hg; omega)
          clear cp0 cq0 cq1
          go_wp2_with fail
          refine (signed_any _ _ b _ _ (dif_short NP.out NQ.out HLE.out) HX.out).mono ?_
          rw [HV.out]
          rintro e w7 ⟨u7, rfl, o7, b7⟩
          generalize addS x y = z7 at *
          obtain ⟨A7, c7, rfl⟩ := own_len o7
          have bb7 := Below.next bb6 b7
          have kr7 := kr6.below b7
          have cz0 := kr7.here.cell 0 _ rfl
          have cz1 := kr7.here.cell 1 _ rfl
          have fz0 := Lib.frozen_of_heap kr7.here 0
          have fz1 := Lib.frozen_of_heap kr7.here 1
          have HO := Lib.hid o7
          have HK := Lib.hid kr7
          clear o7 kr6 kr7 HX HV
          go_wp2
          refine bodyPost_ret (v := .agg #[.bool _, .slice A7 _ c7]) (by simp [results, Tryz.results84, go_sem, cz0, cz1]; exact ⟨rfl, rfl⟩) rfl ?_
          exact newS_ret HK.out.here HO.out (by omega) (by omega) bb7
    · have oky' : okS y = false := by simpa using oky
      have HV := Lib.hid (show addS x y = zeroS by unfold addS; rw [if_neg (fun h => oky h.2)])
      rw [oky']
      have cz0 := kr.here.cell 0 _ rfl
      have cz1 := kr.here.cell 1 _ rfl
      have fz0 := Lib.frozen_of_heap kr.here 0
      have fz1 := Lib.frozen_of_heap kr.here 1
      clear oky kx ky kr ox oy
      go_wp2
      refine bodyPost_ret (v := .agg #[.bool false, .slice none 0 0]) (by simp [results, Tryz.results84, go_sem, cz0, cz1]) rfl ?_
      rw [HV.out]
      exact newS_zero (below_set2 bb2 (by omega))
  · have okx' : okS x = false := by simpa using okx
    have HV := Lib.hid (show addS x y = zeroS by unfold addS; rw [if_neg (fun h => okx h.1)])
    clear okx
    go_enter Tryz.func84, Tryz.ntmps84
    go_wp2_with fail
    rw [← HW.out]
    refine (implIntOk_any _ x _ hlx rdx).mono ?_
    rintro e w1 ⟨rfl, b1⟩
    rw [okx']
    have bb1 := Below.next hbb b1
    replace kr := kr.below b1
    have cz0 := kr.here.cell 0 _ rfl
    have cz1 := kr.here.cell 1 _ rfl
    have fz0 := Lib.frozen_of_heap kr.here 0
    have fz1 := Lib.frozen_of_heap kr.here 1
    clear kx ky kr rdx ox oy cx0 cx1
    go_wp2
    refine bodyPost_ret (v := .agg #[.bool false, .slice none 0 0]) (by simp [results, Tryz.results84, go_sem, cz0, cz1]) rfl ?_
    rw [HV.out]
    exact newS_zero (below_set2 bb1 (by omega))
theorem negS_len (x : SI) : (negS x).2.length ≤ 1048576 := by
  have := (natOk_parts (okS_parts (negS_ok x)).1).2.1
  omega
theorem sub_add (x : SI) {y : SI} (oky : okS y = true) : subS x y = addS x (negS y) := by
  unfold subS addS
  by_cases okx : okS x = true
  · rw [if_pos ⟨okx, oky⟩, if_pos ⟨okx, negS_ok y⟩, negS_val oky]; rfl
  · rw [if_neg (fun h => okx h.1), if_neg (fun h => okx h.1)]
set_option maxHeartbeats 4000000 in
set_option maxRecDepth 100000 in
theorem implIntSub_any (vx vy : Value) (x y : SI) (w : World) (hlx : x.2.length ≤ 1048576) (hly : y.2.length ≤ 1048576) (hx : OwnS vx x w) (hy : OwnS vy y w) :
    Calls Tryz.prog 179 #[vx, vy] w (NewS (subS x y) w) := by
  obtain ⟨ux, rfl, hox⟩ := hx
  obtain ⟨uy, rfl, hoy⟩ := hy
  obtain ⟨Ax, cx, rfl⟩ := own_len hox
  obtain ⟨Ay, cy, rfl⟩ := own_len hoy
  obtain ⟨W0, hW0⟩ : ∃ W0, W0 = ((w.alloc (.cells #[.bool x.1, .slice Ax x.2.length cx] 25)).alloc (.cells #[.bool y.1, .slice Ay y.2.length cy] 25)).alloc (.cells #[.bool false, .slice none 0 0] 25) := ⟨_, rfl⟩
  have hbb : Below w.heap.size w W0 := by rw [hW0]; exact below_al (below_al (below_al (Below.refl _ _) _) _) _
  have h3 := alloc3 w (.cells #[.bool x.1, .slice Ax x.2.length cx] 25) (.cells #[.bool y.1, .slice Ay y.2.length cy] 25) (.cells #[.bool false, .slice none 0 0] 25)
  rw [← hW0] at h3
  have kx : At [w.heap.size] (BoxAt w.heap.size #[.bool x.1, .slice Ax x.2.length cx] 25) W0 := box_at h3.1
  have ky : At [w.heap.size + 1] (BoxAt (w.heap.size + 1) #[.bool y.1, .slice Ay y.2.length cy] 25) W0 := box_at h3.2.1
  have kr : At [w.heap.size + 1 + 1] (BoxAt (w.heap.size + 1 + 1) #[.bool false, .slice none 0 0] 25) W0 := box_at h3.2.2.1
  have atx := own_at hox
  have aty := own_at hoy
  have ltx := atx.lt
  have lty := aty.lt
  have OFx := Lib.hid (show ∀ W, Chg [w.heap.size + 1 + 1] W0 W → OwnI (.slice Ax x.2.length cx) x.2 W from fun W hc => ((atx.below hbb).chg hc (fun i hi hm => by have := ltx i hi; simp at hm; omega)).here)
  have OFy := Lib.hid (show ∀ W, Chg [w.heap.size + 1 + 1] W0 W → OwnI (.slice Ay y.2.length cy) y.2 W from fun W hc => ((aty.below hbb).chg hc (fun i hi hm => by have := lty i hi; simp at hm; omega)).here)
  have KL := Lib.hid (show ∀ W, Chg [w.heap.size + 1 + 1] W0 W → W.cell? ⟨w.heap.size, 0, none⟩ = some (.bool x.1) ∧ W.cell? ⟨w.heap.size, 1, none⟩ = some (.slice Ax x.2.length cx) ∧ W.cell? ⟨w.heap.size + 1, 0, none⟩ = some (.bool y.1) ∧ W.cell? ⟨w.heap.size + 1, 1, none⟩ = some (.slice Ay y.2.length cy) ∧ Hid (Chg [w.heap.size + 1 + 1] W0 W) from
    fun W hc => ⟨(kx.chg hc (fun i hi hm => by simp at hi hm; omega)).here.cell 0 _ rfl, (kx.chg hc (fun i hi hm => by simp at hi hm; omega)).here.cell 1 _ rfl, (ky.chg hc (fun i hi hm => by simp at hi hm; omega)).here.cell 0 _ rfl, (ky.chg hc (fun i hi hm => by simp at hi hm; omega)).here.cell 1 _ rfl, Lib.hid hc⟩)
  have HW := Lib.hid hW0
  have RDy := Lib.hid (show ∀ W, Below W0.heap.size W0 W → RdS W (.agg #[.bool y.1, .slice Ay y.2.length cy]) y from fun W hb => (OwnS.mk (x := y) (OFy.out W (Chg.of_below hb))).rd)
  have cx0 := kx.here.cell 0 _ rfl
  have cx1 := kx.here.cell 1 _ rfl
  have cy0 := ky.here.cell 0 _ rfl
  have cy1 := ky.here.cell 1 _ rfl
  have frz := Lib.frozen_of_heap kr.here
  clear h3 atx aty ltx lty hW0 hox hoy
  by_cases oky : okS y = true
  · have HV := Lib.hid (sub_add x oky)
    have hnl := negS_len y
    go_enter Tryz.func179, Tryz.ntmps179
    go_wp2_with fail
    rw [← HW.out]
    refine (implIntOk_any _ y W0 hly (RDy.out W0 (Below.refl _ _))).mono ?_
    rintro e w2 ⟨rfl, b02⟩
    rw [oky]
    have bb2 := Below.next hbb b02
    replace kx := kx.below b02
    replace ky := ky.below b02
    replace kr := kr.below b02
    clear cx0 cx1 cy0 cy1
    have cx0 := kx.here.cell 0 _ rfl
    have cx1 := kx.here.cell 1 _ rfl
    have cy0 := ky.here.cell 0 _ rfl
    have cy1 := ky.here.cell 1 _ rfl
    go_wp2_with fail
    have KF := Lib.hid (show ∀ W, Chg [w.heap.size + 1 + 1] w2 W → Chg [w.heap.size + 1 + 1] W0 W from fun W hc => (Chg.of_below b02).trans hc)
    clear cx0 cx1 cy0 cy1
    go_region_held3 (fun W => W.cell? ⟨w.heap.size, 0, none⟩ = some (.bool x.1) ∧ W.cell? ⟨w.heap.size, 1, none⟩ = some (.slice Ax x.2.length cx) ∧ W.cell? ⟨w.heap.size + 1, 0, none⟩ = some (.bool y.1) ∧ W.cell? ⟨w.heap.size + 1, 1, none⟩ = some (.slice Ay y.2.length cy) ∧ Hid (Chg [w.heap.size + 1 + 1] W0 W))
      ((refine KL.out _ ?_; (first | exact HC2.out | exact HC1.out | exact (Chg.setCell (Chg.setCell HC2.out (by simp) _) (by simp) _) | exact KF.out _ ⟨rfl, rfl, rfl, Nat.le_refl _, fun _ _ _ => rfl⟩ | fail)))
      (first
        | (go_at_call 208; (have hBB := (‹_ ∧ _ ∧ _ ∧ _ ∧ Hid (Chg [w.heap.size + 1 + 1] W0 _)›).2.2.2.2); (with_reducible refine (implIntNeg_any _ y _ hly (OwnS.mk (x := y) (OFy.out _ hBB.out))).mono ?_); rintro e w3' ⟨u3', rfl, o3', b3'⟩; have HC1 := Lib.hid (hBB.out.trans (Chg.of_below b3')); (have kr3 := At.behind kr b3' rfl); (have bb3' := Below.next (show Below w.heap.size w w2.drew from bb2.drew) b3'); obtain ⟨A3', c3', rfl⟩ := own_len o3'; clear hBB)
        | (go_at_call 84; (have hBB := (‹_ ∧ _ ∧ _ ∧ _ ∧ Hid (Chg [w.heap.size + 1 + 1] W0 _)›).2.2.2.2); (with_reducible refine (implIntAdd_any _ _ x (negS y) _ hlx hnl (OwnS.mk (x := x) (OFx.out _ hBB.out)) (OwnS.mk (x := negS y) (ownI_of o3'))).mono ?_); rintro e w3 ⟨u3, rfl, o3, b3⟩; have HC2 := Lib.hid (hBB.out.trans (Chg.of_below b3)); (have kr4 := kr3.below b3); (have bb3 := Below.next bb3' b3); (have cz0 := kr4.here.cell 0 _ rfl); (have cz1 := kr4.here.cell 1 _ rfl); (have fz0 := Lib.frozen_of_heap kr4.here 0); (have fz1 := Lib.frozen_of_heap kr4.here 1); obtain ⟨A3, c3, rfl⟩ := own_len o3; clear hBB))
    have HO := Lib.hid o3
    have HBB := Lib.hid bb3
    have HK := Lib.hid kr4
    have HZ := Lib.hid bb3'.size
    clear o3 bb3 kr kr3 kr4 kx ky o3' b3' b3
    go_wp2
    refine bodyPost_ret (v := .agg #[.bool _, .slice A3 _ c3]) (by simp [results, Tryz.results179, go_sem, cz0, cz1]; exact ⟨rfl, rfl⟩) rfl ?_
    rw [HV.out]
    exact newS_ret HK.out.here HO.out HZ.out (by omega) HBB.out
  · have oky2 : okS y = false := by simpa using oky
    have HV := Lib.hid (show subS x y = zeroS by unfold subS; rw [if_neg (fun h => oky h.2)])
    clear oky
    go_enter Tryz.func179, Tryz.ntmps179
    go_wp2_with fail
    rw [← HW.out]
    refine (implIntOk_any _ y W0 hly (RDy.out W0 (Below.refl _ _))).mono ?_
    rintro e w2 ⟨rfl, b2⟩
    rw [oky2]
    have bb2 := Below.next hbb b2
    replace kr := kr.below b2
    have cz0 := kr.here.cell 0 _ rfl
    have cz1 := kr.here.cell 1 _ rfl
    have fz0 := Lib.frozen_of_heap kr.here 0
    have fz1 := Lib.frozen_of_heap kr.here 1
    clear kx ky kr cx0 cx1 cy0 cy1
    go_wp2
    refine bodyPost_ret (v := .agg #[.bool false, .slice none 0 0]) (by simp [results, Tryz.results179, go_sem, cz0, cz1]) rfl ?_
    rw [HV.out]
    exact newS_zero (below_set2 bb2 (by omega))
end Go.Proofs.YtcenmdiblbooeaaGreatDoor

namespace Go.Proofs.YtcenmdiblbooeaaGreatDoor
open Go.RowKit

/-- a struct result of two cells that lies in its cells at block r -/
theorem newV_at2 {φ : Value → World → Prop} {r B : Nat} {S : List Nat} {c0 c1 : Value} {w W : World} (o : At S (φ (.agg #[c0, c1])) W) (l : Within S B W.heap.size) (hrB : r < B) (hr : w.heap.size ≤ r) (hW : Below w.heap.size w W) :
    NewV φ w (.returned (.agg #[c0, c1])) ((W.setCell ⟨r, 0, none⟩ c0).setCell ⟨r, 1, none⟩ c1) := by
  have hc : Chg [r] W ((W.setCell ⟨r, 0, none⟩ c0).setCell ⟨r, 1, none⟩ c1) := ((Chg.refl _ _).setCell (by simp) _).setCell (by simp) _
  have hz := hc.size
  exact ⟨_, S, rfl, o.chg hc (fun i hi hm => by have := l i hi; simp at hm; omega), fun i hi => by have := l i hi; omega, below_set2 hW hr⟩
theorem newVS_eq {x y : SI} (e : x = y) {w w' : World} {n : Ending} (h : NewV (fun v => OwnS v x) w n w') : NewV (fun v => OwnS v y) w n w' := by rw [← e]; exact h
set_option maxHeartbeats 2000000 in
set_option maxRecDepth 100000 in
theorem left_any {Ar Br : Option Addr} {cr dr : Nat} {As Bs : Option Addr} {cs ds : Nat} (r s : QI) (w : World) (pr : Parts r) (ps : Parts s) (hr : OwnQ (.agg #[.bool r.1.1, .slice Ar r.1.2.length cr, .slice Br r.2.length dr]) r w) (hs : OwnQ (.agg #[.bool s.1.1, .slice As s.1.2.length cs, .slice Bs s.2.length ds]) s w) :
    Calls Tryz.prog 180 #[.agg #[.bool r.1.1, .slice Ar r.1.2.length cr, .slice Br r.2.length dr, .bool s.1.1, .slice As s.1.2.length cs, .slice Bs s.2.length ds]] w (NewV (fun v => OwnS v (leftS r s)) w) := by
  have HPr := Lib.hid pr
  have HPs := Lib.hid ps
  have hl1r : r.1.2.length ≤ 1048576 := by have := pr.n50; omega
  have hl2r : r.2.length ≤ 1048576 := by have := pr.d50; omega
  have hl1s : s.1.2.length ≤ 1048576 := by have := ps.n50; omega
  have hl2s : s.2.length ≤ 1048576 := by have := ps.d50; omega
  clear pr ps
  have Hr := Lib.hid hr
  have OQr := Lib.hid (show ∀ W, Below w.heap.size w W → OwnQ (.agg #[.bool r.1.1, .slice Ar r.1.2.length cr, .slice Br r.2.length dr]) r W from fun W hb => OwnQ.below Hr.out hb)
  have OUr := Lib.hid (show ∀ W, Below w.heap.size w W → OwnI (.slice Ar r.1.2.length cr) r.1.2 W from fun W hb => (ownQ_open (OQr.out W hb)).2.1)
  have ODr := Lib.hid (show ∀ W, Below w.heap.size w W → OwnI (.slice Br r.2.length dr) r.2 W from fun W hb => (ownQ_open (OQr.out W hb)).2.2.1)
  have OSr := Lib.hid (show ∀ W, Below w.heap.size w W → OwnS (.agg #[.bool r.1.1, .slice Ar r.1.2.length cr]) r.1 W from fun W hb => OwnS.mk (OUr.out W hb))
  clear hr
  have Hs := Lib.hid hs
  have OQs := Lib.hid (show ∀ W, Below w.heap.size w W → OwnQ (.agg #[.bool s.1.1, .slice As s.1.2.length cs, .slice Bs s.2.length ds]) s W from fun W hb => OwnQ.below Hs.out hb)
  have OUs := Lib.hid (show ∀ W, Below w.heap.size w W → OwnI (.slice As s.1.2.length cs) s.1.2 W from fun W hb => (ownQ_open (OQs.out W hb)).2.1)
  have ODs := Lib.hid (show ∀ W, Below w.heap.size w W → OwnI (.slice Bs s.2.length ds) s.2 W from fun W hb => (ownQ_open (OQs.out W hb)).2.2.1)
  have OSs := Lib.hid (show ∀ W, Below w.heap.size w W → OwnS (.agg #[.bool s.1.1, .slice As s.1.2.length cs]) s.1 W from fun W hb => OwnS.mk (OUs.out W hb))
  clear hs
  have bb0 : Below w.heap.size w ((w.alloc (.cells #[.bool r.1.1, .slice Ar r.1.2.length cr, .slice Br r.2.length dr, .bool s.1.1, .slice As s.1.2.length cs, .slice Bs s.2.length ds] 170)).alloc (.cells #[.bool false, .slice none 0 0] 25)) := below_al (below_al (Below.refl _ _) _) _
  have kp := (box_new w #[.bool r.1.1, .slice Ar r.1.2.length cr, .slice Br r.2.length dr, .bool s.1.1, .slice As s.1.2.length cs, .slice Bs s.2.length ds] 170).below (below_al (Below.refl _ _) (.cells #[.bool false, .slice none 0 0] 25))
  have ko := (box_new (w.alloc (.cells #[.bool r.1.1, .slice Ar r.1.2.length cr, .slice Br r.2.length dr, .bool s.1.1, .slice As s.1.2.length cs, .slice Bs s.2.length ds] 170)) #[.bool false, .slice none 0 0] 25)
  rw [show (w.alloc (.cells #[.bool r.1.1, .slice Ar r.1.2.length cr, .slice Br r.2.length dr, .bool s.1.1, .slice As s.1.2.length cs, .slice Bs s.2.length ds] 170)).heap.size = w.heap.size + 1 by simp] at ko
  have HKO := Lib.hid (ko.lt (w.heap.size + 1) (by simp))
  have hz0 := bb0.size
  go_enter Tryz.func180, Tryz.ntmps180
  have kp_c0 := kp.here.cell 0 _ rfl
  have kp_c1 := kp.here.cell 1 _ rfl
  have kp_c2 := kp.here.cell 2 _ rfl
  have kp_c3 := kp.here.cell 3 _ rfl
  have kp_c4 := kp.here.cell 4 _ rfl
  have kp_c5 := kp.here.cell 5 _ rfl
  go_wp2_with fail
  clear kp_c0 kp_c1 kp_c2 kp_c3 kp_c4 kp_c5
  refine ((implIntMul_any _ _ r.1 (false, s.2) _ hl1r hl2s (OSr.out _ bb0) (OwnS.mk (x := (false, s.2)) (ODs.out _ bb0))).mono fun _ _ h => NewS.newV (x := leftS r s) h).mono ?_
  rintro e w1 ⟨uf, Sf, rfl, of, lf, b1⟩
  obtain ⟨Af, cf, rfl⟩ := ownS_form of.here
  have bb1 := Below.next bb0 b1
  replace kp := kp.below b1
  replace ko := ko.below b1
  have HW := Lib.hid (newV_at2 (φ := fun v => OwnS v (leftS r s)) (r := w.heap.size + 1) of (by exact lf) (by have := HKO.out; have := hz0; omega) (by omega) bb1)
  have cz0 := ko.here.cell 0 _ rfl
  have fz0 := Lib.frozen_of_heap ko.here 0
  have cz1 := ko.here.cell 1 _ rfl
  have fz1 := Lib.frozen_of_heap ko.here 1
  clear of ko kp
  go_wp2
  refine bodyPost_ret (v := .agg #[.bool _, .slice Af _ cf]) (by simp [results, Tryz.results180, go_sem, cz0, cz1]; exact ⟨rfl, rfl⟩) rfl ?_
  exact HW.out
set_option maxHeartbeats 2000000 in
set_option maxRecDepth 100000 in
theorem right_any {Ar Br : Option Addr} {cr dr : Nat} {As Bs : Option Addr} {cs ds : Nat} (r s : QI) (w : World) (pr : Parts r) (ps : Parts s) (hr : OwnQ (.agg #[.bool r.1.1, .slice Ar r.1.2.length cr, .slice Br r.2.length dr]) r w) (hs : OwnQ (.agg #[.bool s.1.1, .slice As s.1.2.length cs, .slice Bs s.2.length ds]) s w) :
    Calls Tryz.prog 181 #[.agg #[.bool r.1.1, .slice Ar r.1.2.length cr, .slice Br r.2.length dr, .bool s.1.1, .slice As s.1.2.length cs, .slice Bs s.2.length ds]] w (NewV (fun v => OwnS v (leftS s r)) w) := by
  have HPr := Lib.hid pr
  have HPs := Lib.hid ps
  have hl1r : r.1.2.length ≤ 1048576 := by have := pr.n50; omega
  have hl2r : r.2.length ≤ 1048576 := by have := pr.d50; omega
  have hl1s : s.1.2.length ≤ 1048576 := by have := ps.n50; omega
  have hl2s : s.2.length ≤ 1048576 := by have := ps.d50; omega
  clear pr ps
  have Hr := Lib.hid hr
  have OQr := Lib.hid (show ∀ W, Below w.heap.size w W → OwnQ (.agg #[.bool r.1.1, .slice Ar r.1.2.length cr, .slice Br r.2.length dr]) r W from fun W hb => OwnQ.below Hr.out hb)
  have OUr := Lib.hid (show ∀ W, Below w.heap.size w W → OwnI (.slice Ar r.1.2.length cr) r.1.2 W from fun W hb => (ownQ_open (OQr.out W hb)).2.1)
  have ODr := Lib.hid (show ∀ W, Below w.heap.size w W → OwnI (.slice Br r.2.length dr) r.2 W from fun W hb => (ownQ_open (OQr.out W hb)).2.2.1)
  have OSr := Lib.hid (show ∀ W, Below w.heap.size w W → OwnS (.agg #[.bool r.1.1, .slice Ar r.1.2.length cr]) r.1 W from fun W hb => OwnS.mk (OUr.out W hb))
  clear hr
  have Hs := Lib.hid hs
  have OQs := Lib.hid (show ∀ W, Below w.heap.size w W → OwnQ (.agg #[.bool s.1.1, .slice As s.1.2.length cs, .slice Bs s.2.length ds]) s W from fun W hb => OwnQ.below Hs.out hb)
  have OUs := Lib.hid (show ∀ W, Below w.heap.size w W → OwnI (.slice As s.1.2.length cs) s.1.2 W from fun W hb => (ownQ_open (OQs.out W hb)).2.1)
  have ODs := Lib.hid (show ∀ W, Below w.heap.size w W → OwnI (.slice Bs s.2.length ds) s.2 W from fun W hb => (ownQ_open (OQs.out W hb)).2.2.1)
  have OSs := Lib.hid (show ∀ W, Below w.heap.size w W → OwnS (.agg #[.bool s.1.1, .slice As s.1.2.length cs]) s.1 W from fun W hb => OwnS.mk (OUs.out W hb))
  clear hs
  have bb0 : Below w.heap.size w ((w.alloc (.cells #[.bool r.1.1, .slice Ar r.1.2.length cr, .slice Br r.2.length dr, .bool s.1.1, .slice As s.1.2.length cs, .slice Bs s.2.length ds] 170)).alloc (.cells #[.bool false, .slice none 0 0] 25)) := below_al (below_al (Below.refl _ _) _) _
  have kp := (box_new w #[.bool r.1.1, .slice Ar r.1.2.length cr, .slice Br r.2.length dr, .bool s.1.1, .slice As s.1.2.length cs, .slice Bs s.2.length ds] 170).below (below_al (Below.refl _ _) (.cells #[.bool false, .slice none 0 0] 25))
  have ko := (box_new (w.alloc (.cells #[.bool r.1.1, .slice Ar r.1.2.length cr, .slice Br r.2.length dr, .bool s.1.1, .slice As s.1.2.length cs, .slice Bs s.2.length ds] 170)) #[.bool false, .slice none 0 0] 25)
  rw [show (w.alloc (.cells #[.bool r.1.1, .slice Ar r.1.2.length cr, .slice Br r.2.length dr, .bool s.1.1, .slice As s.1.2.length cs, .slice Bs s.2.length ds] 170)).heap.size = w.heap.size + 1 by simp] at ko
  have HKO := Lib.hid (ko.lt (w.heap.size + 1) (by simp))
  have hz0 := bb0.size
  go_enter Tryz.func181, Tryz.ntmps181
  have kp_c0 := kp.here.cell 0 _ rfl
  have kp_c1 := kp.here.cell 1 _ rfl
  have kp_c2 := kp.here.cell 2 _ rfl
  have kp_c3 := kp.here.cell 3 _ rfl
  have kp_c4 := kp.here.cell 4 _ rfl
  have kp_c5 := kp.here.cell 5 _ rfl
  go_wp2_with fail
  clear kp_c0 kp_c1 kp_c2 kp_c3 kp_c4 kp_c5
  refine ((implIntMul_any _ _ s.1 (false, r.2) _ hl1s hl2r (OSs.out _ bb0) (OwnS.mk (x := (false, r.2)) (ODr.out _ bb0))).mono fun _ _ h => NewS.newV (x := leftS s r) h).mono ?_
  rintro e w1 ⟨uf, Sf, rfl, of, lf, b1⟩
  obtain ⟨Af, cf, rfl⟩ := ownS_form of.here
  have bb1 := Below.next bb0 b1
  replace kp := kp.below b1
  replace ko := ko.below b1
  have HW := Lib.hid (newV_at2 (φ := fun v => OwnS v (leftS s r)) (r := w.heap.size + 1) of (by exact lf) (by have := HKO.out; have := hz0; omega) (by omega) bb1)
  have cz0 := ko.here.cell 0 _ rfl
  have fz0 := Lib.frozen_of_heap ko.here 0
  have cz1 := ko.here.cell 1 _ rfl
  have fz1 := Lib.frozen_of_heap ko.here 1
  clear of ko kp
  go_wp2
  refine bodyPost_ret (v := .agg #[.bool _, .slice Af _ cf]) (by simp [results, Tryz.results181, go_sem, cz0, cz1]; exact ⟨rfl, rfl⟩) rfl ?_
  exact HW.out
set_option maxHeartbeats 2000000 in
set_option maxRecDepth 100000 in
theorem denominators_any {Ar Br : Option Addr} {cr dr : Nat} {As Bs : Option Addr} {cs ds : Nat} (r s : QI) (w : World) (pr : Parts r) (ps : Parts s) (hr : OwnQ (.agg #[.bool r.1.1, .slice Ar r.1.2.length cr, .slice Br r.2.length dr]) r w) (hs : OwnQ (.agg #[.bool s.1.1, .slice As s.1.2.length cs, .slice Bs s.2.length ds]) s w) :
    Calls Tryz.prog 139 #[.agg #[.bool r.1.1, .slice Ar r.1.2.length cr, .slice Br r.2.length dr, .bool s.1.1, .slice As s.1.2.length cs, .slice Bs s.2.length ds]] w (NewV (fun v => OwnS v (denS r s)) w) := by
  have HPr := Lib.hid pr
  have HPs := Lib.hid ps
  have hl1r : r.1.2.length ≤ 1048576 := by have := pr.n50; omega
  have hl2r : r.2.length ≤ 1048576 := by have := pr.d50; omega
  have hl1s : s.1.2.length ≤ 1048576 := by have := ps.n50; omega
  have hl2s : s.2.length ≤ 1048576 := by have := ps.d50; omega
  clear pr ps
  have Hr := Lib.hid hr
  have OQr := Lib.hid (show ∀ W, Below w.heap.size w W → OwnQ (.agg #[.bool r.1.1, .slice Ar r.1.2.length cr, .slice Br r.2.length dr]) r W from fun W hb => OwnQ.below Hr.out hb)
  have OUr := Lib.hid (show ∀ W, Below w.heap.size w W → OwnI (.slice Ar r.1.2.length cr) r.1.2 W from fun W hb => (ownQ_open (OQr.out W hb)).2.1)
  have ODr := Lib.hid (show ∀ W, Below w.heap.size w W → OwnI (.slice Br r.2.length dr) r.2 W from fun W hb => (ownQ_open (OQr.out W hb)).2.2.1)
  have OSr := Lib.hid (show ∀ W, Below w.heap.size w W → OwnS (.agg #[.bool r.1.1, .slice Ar r.1.2.length cr]) r.1 W from fun W hb => OwnS.mk (OUr.out W hb))
  clear hr
  have Hs := Lib.hid hs
  have OQs := Lib.hid (show ∀ W, Below w.heap.size w W → OwnQ (.agg #[.bool s.1.1, .slice As s.1.2.length cs, .slice Bs s.2.length ds]) s W from fun W hb => OwnQ.below Hs.out hb)
  have OUs := Lib.hid (show ∀ W, Below w.heap.size w W → OwnI (.slice As s.1.2.length cs) s.1.2 W from fun W hb => (ownQ_open (OQs.out W hb)).2.1)
  have ODs := Lib.hid (show ∀ W, Below w.heap.size w W → OwnI (.slice Bs s.2.length ds) s.2 W from fun W hb => (ownQ_open (OQs.out W hb)).2.2.1)
  have OSs := Lib.hid (show ∀ W, Below w.heap.size w W → OwnS (.agg #[.bool s.1.1, .slice As s.1.2.length cs]) s.1 W from fun W hb => OwnS.mk (OUs.out W hb))
  clear hs
  have bb0 : Below w.heap.size w ((w.alloc (.cells #[.bool r.1.1, .slice Ar r.1.2.length cr, .slice Br r.2.length dr, .bool s.1.1, .slice As s.1.2.length cs, .slice Bs s.2.length ds] 170)).alloc (.cells #[.bool false, .slice none 0 0] 25)) := below_al (below_al (Below.refl _ _) _) _
  have kp := (box_new w #[.bool r.1.1, .slice Ar r.1.2.length cr, .slice Br r.2.length dr, .bool s.1.1, .slice As s.1.2.length cs, .slice Bs s.2.length ds] 170).below (below_al (Below.refl _ _) (.cells #[.bool false, .slice none 0 0] 25))
  have ko := (box_new (w.alloc (.cells #[.bool r.1.1, .slice Ar r.1.2.length cr, .slice Br r.2.length dr, .bool s.1.1, .slice As s.1.2.length cs, .slice Bs s.2.length ds] 170)) #[.bool false, .slice none 0 0] 25)
  rw [show (w.alloc (.cells #[.bool r.1.1, .slice Ar r.1.2.length cr, .slice Br r.2.length dr, .bool s.1.1, .slice As s.1.2.length cs, .slice Bs s.2.length ds] 170)).heap.size = w.heap.size + 1 by simp] at ko
  have HKO := Lib.hid (ko.lt (w.heap.size + 1) (by simp))
  have hz0 := bb0.size
  go_enter Tryz.func139, Tryz.ntmps139
  have kp_c0 := kp.here.cell 0 _ rfl
  have kp_c1 := kp.here.cell 1 _ rfl
  have kp_c2 := kp.here.cell 2 _ rfl
  have kp_c3 := kp.here.cell 3 _ rfl
  have kp_c4 := kp.here.cell 4 _ rfl
  have kp_c5 := kp.here.cell 5 _ rfl
  go_wp2_with fail
  clear kp_c0 kp_c1 kp_c2 kp_c3 kp_c4 kp_c5
  refine ((implNatMul_any _ _ r.2 s.2 0 _ 0 _ _ hl2r hl2s (Nat.le_refl _) (Nat.le_refl _) (ODr.out _ bb0).row (ODs.out _ bb0).row).mono fun _ _ h => h.newV).mono ?_
  rintro e w1 ⟨uf, Sf, rfl, of0, lf, b1⟩
  obtain ⟨Af, cf, rfl⟩ := own_len of0.here
  have of := of0.imp (ψ := OwnS (.agg #[.bool false, .slice Af (mulN r.2 s.2).length cf]) (denS r s)) fun _ h => OwnS.mk (x := denS r s) h
  clear of0
  have bb1 := Below.next bb0 b1
  replace kp := kp.below b1
  replace ko := ko.below b1
  have HW := Lib.hid (newV_at2 (φ := fun v => OwnS v (denS r s)) (r := w.heap.size + 1) of (by exact lf) (by have := HKO.out; have := hz0; omega) (by omega) bb1)
  have cz0 := ko.here.cell 0 _ rfl
  have fz0 := Lib.frozen_of_heap ko.here 0
  have cz1 := ko.here.cell 1 _ rfl
  have fz1 := Lib.frozen_of_heap ko.here 1
  clear of ko kp
  go_wp2
  refine bodyPost_ret (v := .agg #[.bool false, .slice Af _ cf]) (by simp [results, Tryz.results139, go_sem, cz0, cz1]; rfl) rfl ?_
  exact HW.out
set_option maxHeartbeats 2000000 in
set_option maxRecDepth 100000 in
theorem difference_any {Ar Br : Option Addr} {cr dr : Nat} {As Bs : Option Addr} {cs ds : Nat} (r s : QI) (w : World) (pr : Parts r) (ps : Parts s) (hr : OwnQ (.agg #[.bool r.1.1, .slice Ar r.1.2.length cr, .slice Br r.2.length dr]) r w) (hs : OwnQ (.agg #[.bool s.1.1, .slice As s.1.2.length cs, .slice Bs s.2.length ds]) s w) :
    Calls Tryz.prog 138 #[.agg #[.bool r.1.1, .slice Ar r.1.2.length cr, .slice Br r.2.length dr, .bool s.1.1, .slice As s.1.2.length cs, .slice Bs s.2.length ds]] w (NewV (fun v => OwnS v (subS (leftS r s) (leftS s r))) w) := by
  have hl1 : (leftS r s).2.length ≤ 1048576 := by rw [(leftS_eq pr ps).1]; have := ofZ_len (numQ r * denQ s); omega
  have hl2 : (leftS s r).2.length ≤ 1048576 := by rw [(leftS_eq ps pr).1]; have := ofZ_len (numQ s * denQ r); omega
  have HPr := Lib.hid pr
  have HPs := Lib.hid ps
  clear pr ps
  have Hr := Lib.hid hr
  have OQr := Lib.hid (show ∀ W, Below w.heap.size w W → OwnQ (.agg #[.bool r.1.1, .slice Ar r.1.2.length cr, .slice Br r.2.length dr]) r W from fun W hb => OwnQ.below Hr.out hb)
  have OUr := Lib.hid (show ∀ W, Below w.heap.size w W → OwnI (.slice Ar r.1.2.length cr) r.1.2 W from fun W hb => (ownQ_open (OQr.out W hb)).2.1)
  have ODr := Lib.hid (show ∀ W, Below w.heap.size w W → OwnI (.slice Br r.2.length dr) r.2 W from fun W hb => (ownQ_open (OQr.out W hb)).2.2.1)
  have OSr := Lib.hid (show ∀ W, Below w.heap.size w W → OwnS (.agg #[.bool r.1.1, .slice Ar r.1.2.length cr]) r.1 W from fun W hb => OwnS.mk (OUr.out W hb))
  clear hr
  have Hs := Lib.hid hs
  have OQs := Lib.hid (show ∀ W, Below w.heap.size w W → OwnQ (.agg #[.bool s.1.1, .slice As s.1.2.length cs, .slice Bs s.2.length ds]) s W from fun W hb => OwnQ.below Hs.out hb)
  have OUs := Lib.hid (show ∀ W, Below w.heap.size w W → OwnI (.slice As s.1.2.length cs) s.1.2 W from fun W hb => (ownQ_open (OQs.out W hb)).2.1)
  have ODs := Lib.hid (show ∀ W, Below w.heap.size w W → OwnI (.slice Bs s.2.length ds) s.2 W from fun W hb => (ownQ_open (OQs.out W hb)).2.2.1)
  have OSs := Lib.hid (show ∀ W, Below w.heap.size w W → OwnS (.agg #[.bool s.1.1, .slice As s.1.2.length cs]) s.1 W from fun W hb => OwnS.mk (OUs.out W hb))
  clear hs
  have bb0 : Below w.heap.size w ((w.alloc (.cells #[.bool r.1.1, .slice Ar r.1.2.length cr, .slice Br r.2.length dr, .bool s.1.1, .slice As s.1.2.length cs, .slice Bs s.2.length ds] 170)).alloc (.cells #[.bool false, .slice none 0 0] 25)) := below_al (below_al (Below.refl _ _) _) _
  have kp := (box_new w #[.bool r.1.1, .slice Ar r.1.2.length cr, .slice Br r.2.length dr, .bool s.1.1, .slice As s.1.2.length cs, .slice Bs s.2.length ds] 170).below (below_al (Below.refl _ _) (.cells #[.bool false, .slice none 0 0] 25))
  have ko := (box_new (w.alloc (.cells #[.bool r.1.1, .slice Ar r.1.2.length cr, .slice Br r.2.length dr, .bool s.1.1, .slice As s.1.2.length cs, .slice Bs s.2.length ds] 170)) #[.bool false, .slice none 0 0] 25)
  rw [show (w.alloc (.cells #[.bool r.1.1, .slice Ar r.1.2.length cr, .slice Br r.2.length dr, .bool s.1.1, .slice As s.1.2.length cs, .slice Bs s.2.length ds] 170)).heap.size = w.heap.size + 1 by simp] at ko
  have HKO := Lib.hid (ko.lt (w.heap.size + 1) (by simp))
  have hz0 := bb0.size
  obtain ⟨W0, hW0⟩ : ∃ W0, W0 = ((w.alloc (.cells #[.bool r.1.1, .slice Ar r.1.2.length cr, .slice Br r.2.length dr, .bool s.1.1, .slice As s.1.2.length cs, .slice Bs s.2.length ds] 170)).alloc (.cells #[.bool false, .slice none 0 0] 25)) := ⟨_, rfl⟩
  rw [← hW0] at bb0 kp ko HKO hz0
  have HW0 := Lib.hid hW0
  clear hW0
  have hko := HKO.out
  obtain ⟨L, hL⟩ : ∃ L, leftS r s = L := ⟨_, rfl⟩
  obtain ⟨R, hR⟩ : ∃ R, leftS s r = R := ⟨_, rfl⟩
  obtain ⟨Q, hQ⟩ : ∃ Q, subS L R = Q := ⟨_, rfl⟩
  rw [hL, hR, hQ]
  rw [hL] at hl1
  rw [hR] at hl2
  have EL := Lib.hid hL
  have ER := Lib.hid hR
  have EQ := Lib.hid hQ
  clear hL hR hQ
  go_enter Tryz.func138, Tryz.ntmps138
  have kp_c0 := kp.here.cell 0 _ rfl
  have kp_c1 := kp.here.cell 1 _ rfl
  have kp_c2 := kp.here.cell 2 _ rfl
  have kp_c3 := kp.here.cell 3 _ rfl
  have kp_c4 := kp.here.cell 4 _ rfl
  have kp_c5 := kp.here.cell 5 _ rfl
  go_wp2_with fail
  rw [← HW0.out]
  have HC0 := Lib.hid (show Chg [w.heap.size + 1] W0 W0.drew from (Chg.refl _ _).drew1)
  have HCr := Lib.hid (show Chg [w.heap.size + 1] W0 W0 from Chg.refl _ _)
  have KL := Lib.hid (show ∀ W, Chg [w.heap.size + 1] W0 W → W.cell? ⟨w.heap.size, 0, none⟩ = some (.bool r.1.1) ∧ W.cell? ⟨w.heap.size, 1, none⟩ = some (.slice Ar r.1.2.length cr) ∧ W.cell? ⟨w.heap.size, 2, none⟩ = some (.slice Br r.2.length dr) ∧ W.cell? ⟨w.heap.size, 3, none⟩ = some (.bool s.1.1) ∧ W.cell? ⟨w.heap.size, 4, none⟩ = some (.slice As s.1.2.length cs) ∧ W.cell? ⟨w.heap.size, 5, none⟩ = some (.slice Bs s.2.length ds) ∧ Hid (Chg [w.heap.size + 1] W0 W) from fun W hc => ⟨(kp.chg hc (fun i hi hm => by simp at hi hm; omega)).here.cell 0 _ rfl, (kp.chg hc (fun i hi hm => by simp at hi hm; omega)).here.cell 1 _ rfl, (kp.chg hc (fun i hi hm => by simp at hi hm; omega)).here.cell 2 _ rfl, (kp.chg hc (fun i hi hm => by simp at hi hm; omega)).here.cell 3 _ rfl, (kp.chg hc (fun i hi hm => by simp at hi hm; omega)).here.cell 4 _ rfl, (kp.chg hc (fun i hi hm => by simp at hi hm; omega)).here.cell 5 _ rfl, Lib.hid hc⟩)
  have BBF := Lib.hid (show ∀ W, Chg [w.heap.size + 1] W0 W → Below w.heap.size w W from fun W hc => below_chg bb0 hc bb0.size (fun i hi => by simp at hi; omega))
  clear kp_c0 kp_c1 kp_c2 kp_c3 kp_c4 kp_c5
  go_region_held3 (fun W => W.cell? ⟨w.heap.size, 0, none⟩ = some (.bool r.1.1) ∧ W.cell? ⟨w.heap.size, 1, none⟩ = some (.slice Ar r.1.2.length cr) ∧ W.cell? ⟨w.heap.size, 2, none⟩ = some (.slice Br r.2.length dr) ∧ W.cell? ⟨w.heap.size, 3, none⟩ = some (.bool s.1.1) ∧ W.cell? ⟨w.heap.size, 4, none⟩ = some (.slice As s.1.2.length cs) ∧ W.cell? ⟨w.heap.size, 5, none⟩ = some (.slice Bs s.2.length ds) ∧ Hid (Chg [w.heap.size + 1] W0 W))
    ((refine KL.out _ ?_; (first | exact HC3.out | exact HC2.out | exact HC1.out | exact HCr.out | exact HC0.out | exact HC3.out.drew1 | exact HC2.out.drew1 | exact HC1.out.drew1 | exact HCr.out.drew1 | exact HC0.out.drew1 | exact HC3.out.trans (Chg.of_below (below_al (Below.refl _ _) _)) | exact HC2.out.trans (Chg.of_below (below_al (Below.refl _ _) _)) | exact HC1.out.trans (Chg.of_below (below_al (Below.refl _ _) _)) | exact HCr.out.trans (Chg.of_below (below_al (Below.refl _ _) _)) | exact HC0.out.trans (Chg.of_below (below_al (Below.refl _ _) _)) | exact (Chg.setCell HC3.out (by simp) _) | exact (Chg.setCell (Chg.setCell HC3.out (by simp) _) (by simp) _) | fail)))
    (first
      | (go_at_call 180; (have hBB := (‹_ ∧ _ ∧ _ ∧ _ ∧ _ ∧ _ ∧ Hid (Chg [w.heap.size + 1] W0 _)›).2.2.2.2.2.2); (with_reducible refine ((left_any r s _ HPr.out HPs.out (OQr.out _ (BBF.out _ hBB.out)) (OQs.out _ (BBF.out _ hBB.out))).mono fun _ _ h => newVS_eq EL.out h).mono ?_); rintro e w1 ⟨ul, Sl, rfl, ol, ll, b1⟩; have HC1 := Lib.hid (hBB.out.trans (Chg.of_below b1)); (have ko_1 := At.below (by first | exact ko | exact At.below ko (below_al (Below.refl _ _) _) | exact At.below (At.below ko (below_al (Below.refl _ _) _)) (below_al (Below.refl _ _) _) | exact At.move ko (fun _ _ => rfl) (Nat.le_refl _)) b1); obtain ⟨Al, cl, rfl⟩ := ownS_form ol.here; have HBZ1 := Lib.hid hBB.out.size; clear hBB)
      | (go_at_call 181; (have hBB := (‹_ ∧ _ ∧ _ ∧ _ ∧ _ ∧ _ ∧ Hid (Chg [w.heap.size + 1] W0 _)›).2.2.2.2.2.2); (with_reducible refine ((right_any r s _ HPr.out HPs.out (OQr.out _ (BBF.out _ hBB.out)) (OQs.out _ (BBF.out _ hBB.out))).mono fun _ _ h => newVS_eq ER.out h).mono ?_); rintro e w2 ⟨ur, Sr, rfl, or, lr, b2⟩; have HC2 := Lib.hid (hBB.out.trans (Chg.of_below b2)); (have ko_2 := At.below (by first | exact ko_1 | exact At.below ko_1 (below_al (Below.refl _ _) _) | exact At.below (At.below ko_1 (below_al (Below.refl _ _) _)) (below_al (Below.refl _ _) _) | exact At.move ko_1 (fun _ _ => rfl) (Nat.le_refl _)) b2); (have ol_2 := At.below (by first | exact ol | exact At.below ol (below_al (Below.refl _ _) _) | exact At.below (At.below ol (below_al (Below.refl _ _) _)) (below_al (Below.refl _ _) _) | exact At.move ol (fun _ _ => rfl) (Nat.le_refl _)) b2); obtain ⟨Ar_, cr_, rfl⟩ := ownS_form or.here; have HBZ2 := Lib.hid hBB.out.size; clear hBB)
      | (go_at_call 179; (have hBB := (‹_ ∧ _ ∧ _ ∧ _ ∧ _ ∧ _ ∧ Hid (Chg [w.heap.size + 1] W0 _)›).2.2.2.2.2.2); (with_reducible refine ((implIntSub_any _ _ L R _ hl1 hl2 (At.here (by first | exact ol_2 | exact At.below ol_2 (below_al (Below.refl _ _) _) | exact At.below (At.below ol_2 (below_al (Below.refl _ _) _)) (below_al (Below.refl _ _) _) | exact At.move ol_2 (fun _ _ => rfl) (Nat.le_refl _))) (At.here (by first | exact or | exact At.below or (below_al (Below.refl _ _) _) | exact At.below (At.below or (below_al (Below.refl _ _) _)) (below_al (Below.refl _ _) _) | exact At.move or (fun _ _ => rfl) (Nat.le_refl _)))).mono fun _ _ h => newVS_eq EQ.out (NewS.newV h)).mono ?_); rintro e w3 ⟨uf, Sf, rfl, of, lf, b3⟩; have HC3 := Lib.hid (hBB.out.trans (Chg.of_below b3)); (have ko_3 := At.below (by first | exact ko_2 | exact At.below ko_2 (below_al (Below.refl _ _) _) | exact At.below (At.below ko_2 (below_al (Below.refl _ _) _)) (below_al (Below.refl _ _) _) | exact At.move ko_2 (fun _ _ => rfl) (Nat.le_refl _)) b3); (have ol_3 := At.below (by first | exact ol_2 | exact At.below ol_2 (below_al (Below.refl _ _) _) | exact At.below (At.below ol_2 (below_al (Below.refl _ _) _)) (below_al (Below.refl _ _) _) | exact At.move ol_2 (fun _ _ => rfl) (Nat.le_refl _)) b3); (have or_3 := At.below (by first | exact or | exact At.below or (below_al (Below.refl _ _) _) | exact At.below (At.below or (below_al (Below.refl _ _) _)) (below_al (Below.refl _ _) _) | exact At.move or (fun _ _ => rfl) (Nat.le_refl _)) b3); obtain ⟨Af, cf, rfl⟩ := ownS_form of.here; have cz0 := ko_3.here.cell 0 _ rfl; have fz0 := Lib.frozen_of_heap ko_3.here 0; have cz1 := ko_3.here.cell 1 _ rfl; have fz1 := Lib.frozen_of_heap ko_3.here 1; have HBZ3 := Lib.hid hBB.out.size; clear hBB))
  have bb3 := BBF.out _ HC3.out
  replace kp := kp.chg HC3.out (fun i hi hm => by simp at hi hm; omega)
  replace ko := ko_3
  have ol := ol_3
  have or := or_3
  have HW := Lib.hid (newV_at2 (φ := fun v => OwnS v Q) (r := w.heap.size + 1) of lf (by have := HBZ3.out; omega) (by omega) bb3)
  clear of ko kp ol or
  go_wp2
  refine bodyPost_ret (v := .agg #[.bool _, .slice Af _ cf]) (by simp [results, Tryz.results138, go_sem, cz0, cz1]; exact ⟨rfl, rfl⟩) rfl ?_
  exact HW.out
set_option maxHeartbeats 2000000 in
set_option maxRecDepth 100000 in
theorem ok_any {Ar Br : Option Addr} {cr dr : Nat} {As Bs : Option Addr} {cs ds : Nat} (r s : QI) (w : World) (hzr : szQ r ≤ 1048576) (hzs : szQ s ≤ 1048576) (hsen : Sen w) (hr : OwnQ (.agg #[.bool r.1.1, .slice Ar r.1.2.length cr, .slice Br r.2.length dr]) r w) (hs : OwnQ (.agg #[.bool s.1.1, .slice As s.1.2.length cs, .slice Bs s.2.length ds]) s w) :
    Calls Tryz.prog 178 #[.agg #[.bool r.1.1, .slice Ar r.1.2.length cr, .slice Br r.2.length dr, .bool s.1.1, .slice As s.1.2.length cs, .slice Bs s.2.length ds]] w (Postb (okQ r && okQ s) w) := by
  have HS := Lib.hid hsen
  clear hsen
  have Hr := Lib.hid hr
  have OQr := Lib.hid (show ∀ W, Below w.heap.size w W → OwnQ (.agg #[.bool r.1.1, .slice Ar r.1.2.length cr, .slice Br r.2.length dr]) r W from fun W hb => OwnQ.below Hr.out hb)
  have OUr := Lib.hid (show ∀ W, Below w.heap.size w W → OwnI (.slice Ar r.1.2.length cr) r.1.2 W from fun W hb => (ownQ_open (OQr.out W hb)).2.1)
  have ODr := Lib.hid (show ∀ W, Below w.heap.size w W → OwnI (.slice Br r.2.length dr) r.2 W from fun W hb => (ownQ_open (OQr.out W hb)).2.2.1)
  have OSr := Lib.hid (show ∀ W, Below w.heap.size w W → OwnS (.agg #[.bool r.1.1, .slice Ar r.1.2.length cr]) r.1 W from fun W hb => OwnS.mk (OUr.out W hb))
  clear hr
  have Hs := Lib.hid hs
  have OQs := Lib.hid (show ∀ W, Below w.heap.size w W → OwnQ (.agg #[.bool s.1.1, .slice As s.1.2.length cs, .slice Bs s.2.length ds]) s W from fun W hb => OwnQ.below Hs.out hb)
  have OUs := Lib.hid (show ∀ W, Below w.heap.size w W → OwnI (.slice As s.1.2.length cs) s.1.2 W from fun W hb => (ownQ_open (OQs.out W hb)).2.1)
  have ODs := Lib.hid (show ∀ W, Below w.heap.size w W → OwnI (.slice Bs s.2.length ds) s.2 W from fun W hb => (ownQ_open (OQs.out W hb)).2.2.1)
  have OSs := Lib.hid (show ∀ W, Below w.heap.size w W → OwnS (.agg #[.bool s.1.1, .slice As s.1.2.length cs]) s.1 W from fun W hb => OwnS.mk (OUs.out W hb))
  clear hs
  have bb0 : Below w.heap.size w (w.alloc (.cells #[.bool r.1.1, .slice Ar r.1.2.length cr, .slice Br r.2.length dr, .bool s.1.1, .slice As s.1.2.length cs, .slice Bs s.2.length ds] 170)) := below_al (Below.refl _ _) _
  have kp := (box_new w #[.bool r.1.1, .slice Ar r.1.2.length cr, .slice Br r.2.length dr, .bool s.1.1, .slice As s.1.2.length cs, .slice Bs s.2.length ds] 170)
  go_enter Tryz.func178, Tryz.ntmps178
  have kp_c0 := kp.here.cell 0 _ rfl
  have kp_c1 := kp.here.cell 1 _ rfl
  have kp_c2 := kp.here.cell 2 _ rfl
  have kp_c3 := kp.here.cell 3 _ rfl
  have kp_c4 := kp.here.cell 4 _ rfl
  have kp_c5 := kp.here.cell 5 _ rfl
  go_wp2_with fail
  clear kp_c0 kp_c1 kp_c2 kp_c3 kp_c4 kp_c5
  refine (implRatOk_any _ r _ hzr (OQr.out _ bb0) (HS.out.below bb0)).mono ?_
  rintro e w1 ⟨rfl, b1⟩
  have bb1 := Below.next bb0 b1
  replace kp := kp.below b1
  by_cases okr : okQ r = true
  · rw [okr]
    have HV := Lib.hid (show (okQ r && okQ s) = okQ s by rw [okr, Bool.true_and])
    clear okr
    have kp_c0 := kp.here.cell 0 _ rfl
    have kp_c1 := kp.here.cell 1 _ rfl
    have kp_c2 := kp.here.cell 2 _ rfl
    have kp_c3 := kp.here.cell 3 _ rfl
    have kp_c4 := kp.here.cell 4 _ rfl
    have kp_c5 := kp.here.cell 5 _ rfl
    go_wp2_with fail
    clear kp_c0 kp_c1 kp_c2 kp_c3 kp_c4 kp_c5
    refine (implRatOk_any _ s _ hzs (OQs.out _ bb1) (HS.out.below bb1)).mono ?_
    rintro e w2 ⟨rfl, b2⟩
    have bb2 := Below.next bb1 b2
    replace kp := kp.below b2
    generalize okQ s = q at *
    go_wp2
    go_ret
    exact ⟨ret_bool HV.out.symm, bb2⟩
  · have okr' : okQ r = false := by simpa using okr
    have HV := Lib.hid (show (okQ r && okQ s) = false by rw [okr', Bool.false_and])
    rw [okr']
    clear okr okr'
    go_wp2
    go_ret
    exact ⟨ret_bool HV.out.symm, bb1⟩
end Go.Proofs.YtcenmdiblbooeaaGreatDoor

namespace Go.Proofs.YtcenmdiblbooeaaGreatDoor
open Go.RowKit

theorem szS_ofZ (z : Int) : szS (ofZ z) ≤ 1048576 := by have := ofZ_len z; unfold szS szI; omega
theorem part_sz_left {r s : QI} (hr : Parts r) (hs : Parts s) : szS (leftS r s) ≤ 1048576 := by rw [(leftS_eq hr hs).1]; exact szS_ofZ _
theorem part_sz_right {r s : QI} (hr : Parts r) (hs : Parts s) : szS (leftS s r) ≤ 1048576 := part_sz_left hs hr
theorem part_sz_numerators {r s : QI} (hr : Parts r) (hs : Parts s) : szS (topS r s) ≤ 1048576 := by rw [(topS_eq hr hs).1]; exact szS_ofZ _
theorem part_sz_denominators {r s : QI} (hr : Parts r) (hs : Parts s) : szS (denS r s) ≤ 1048576 := by
  have h := denS_eq hr hs
  rw [h.1]
  unfold szS szI
  simp only
  have := h.2.2
  omega
theorem part_sz_sum {r s : QI} (_ : Parts r) (_ : Parts s) : szS (addS (leftS r s) (leftS s r)) ≤ 1048576 := by unfold addS; split; exact szS_ofZ _; decide
theorem part_sz_difference {r s : QI} (_ : Parts r) (_ : Parts s) : szS (subS (leftS r s) (leftS s r)) ≤ 1048576 := by unfold subS; split; exact szS_ofZ _; decide
theorem negQ_ok {s : QI} (h : (negQ s).2 = true) : okQ s = true := by
  unfold negQ at h
  split at h
  · rename_i k; exact k
  · cases h
theorem subQ_none {r s : QI} (h : ¬ (okQ r = true ∧ okQ s = true)) : subQ r s = (zeroQ, false) := by
  unfold subQ
  split
  · rename_i k
    have ks := negQ_ok k
    unfold addQ
    rw [if_neg (fun e => h ⟨e.1, ks⟩)]
  · rfl
theorem At.imp_at {u d : Value} {n : Bool} {x : SI} {ys : List Int} {S T : List Nat} {w : World} (h : At (S ++ T) (fun w => OwnS (.agg #[.bool n, u]) x w ∧ OwnI d ys w) w) (hap : ∀ g, u.ownBlock = some g → d.ownBlock = some g → False) : At (S ++ T) (OwnQ (.agg #[.bool x.1, u, d]) (x, ys)) w :=
  h.imp fun _ k => ⟨u, d, rfl, ownS_open k.1, k.2, fun g h1 h2 => hap g h1 h2⟩
set_option maxHeartbeats 2000000 in
set_option maxRecDepth 100000 in
theorem combineRatSub_any {Ar Br : Option Addr} {cr dr : Nat} {As Bs : Option Addr} {cs ds : Nat} (r s : QI) (w : World) (hzr : szQ r ≤ 1048576) (hzs : szQ s ≤ 1048576) (hsen : Sen w) (hr : OwnQ (.agg #[.bool r.1.1, .slice Ar r.1.2.length cr, .slice Br r.2.length dr]) r w) (hs : OwnQ (.agg #[.bool s.1.1, .slice As s.1.2.length cs, .slice Bs s.2.length ds]) s w) :
    Calls Tryz.prog 137 #[.agg #[.bool r.1.1, .slice Ar r.1.2.length cr, .slice Br r.2.length dr, .bool s.1.1, .slice As s.1.2.length cs, .slice Bs s.2.length ds], .func (.func 138) #[.agg #[.bool r.1.1, .slice Ar r.1.2.length cr, .slice Br r.2.length dr, .bool s.1.1, .slice As s.1.2.length cs, .slice Bs s.2.length ds]] #[], .func (.func 139) #[.agg #[.bool r.1.1, .slice Ar r.1.2.length cr, .slice Br r.2.length dr, .bool s.1.1, .slice As s.1.2.length cs, .slice Bs s.2.length ds]] #[]] w (PostQb (subQ r s).1 (subQ r s).2 w) := by
  have HS := Lib.hid hsen
  clear hsen
  have Hr := Lib.hid hr
  have OQr := Lib.hid (show ∀ W, Below w.heap.size w W → OwnQ (.agg #[.bool r.1.1, .slice Ar r.1.2.length cr, .slice Br r.2.length dr]) r W from fun W hb => OwnQ.below Hr.out hb)
  have OUr := Lib.hid (show ∀ W, Below w.heap.size w W → OwnI (.slice Ar r.1.2.length cr) r.1.2 W from fun W hb => (ownQ_open (OQr.out W hb)).2.1)
  have ODr := Lib.hid (show ∀ W, Below w.heap.size w W → OwnI (.slice Br r.2.length dr) r.2 W from fun W hb => (ownQ_open (OQr.out W hb)).2.2.1)
  have OSr := Lib.hid (show ∀ W, Below w.heap.size w W → OwnS (.agg #[.bool r.1.1, .slice Ar r.1.2.length cr]) r.1 W from fun W hb => OwnS.mk (OUr.out W hb))
  clear hr
  have Hs := Lib.hid hs
  have OQs := Lib.hid (show ∀ W, Below w.heap.size w W → OwnQ (.agg #[.bool s.1.1, .slice As s.1.2.length cs, .slice Bs s.2.length ds]) s W from fun W hb => OwnQ.below Hs.out hb)
  have OUs := Lib.hid (show ∀ W, Below w.heap.size w W → OwnI (.slice As s.1.2.length cs) s.1.2 W from fun W hb => (ownQ_open (OQs.out W hb)).2.1)
  have ODs := Lib.hid (show ∀ W, Below w.heap.size w W → OwnI (.slice Bs s.2.length ds) s.2 W from fun W hb => (ownQ_open (OQs.out W hb)).2.2.1)
  have OSs := Lib.hid (show ∀ W, Below w.heap.size w W → OwnS (.agg #[.bool s.1.1, .slice As s.1.2.length cs]) s.1 W from fun W hb => OwnS.mk (OUs.out W hb))
  clear hs
  have bb0 : Below w.heap.size w ((w.alloc (.cells #[.bool r.1.1, .slice Ar r.1.2.length cr, .slice Br r.2.length dr, .bool s.1.1, .slice As s.1.2.length cs, .slice Bs s.2.length ds] 170)).alloc (.cells #[.bool false, .slice none 0 0, .slice none 0 0] 51)) := below_al (below_al (Below.refl _ _) _) _
  have kp := (box_new w #[.bool r.1.1, .slice Ar r.1.2.length cr, .slice Br r.2.length dr, .bool s.1.1, .slice As s.1.2.length cs, .slice Bs s.2.length ds] 170).below (below_al (Below.refl _ _) (.cells #[.bool false, .slice none 0 0, .slice none 0 0] 51))
  have ko := (box_new (w.alloc (.cells #[.bool r.1.1, .slice Ar r.1.2.length cr, .slice Br r.2.length dr, .bool s.1.1, .slice As s.1.2.length cs, .slice Bs s.2.length ds] 170)) #[.bool false, .slice none 0 0, .slice none 0 0] 51)
  rw [show (w.alloc (.cells #[.bool r.1.1, .slice Ar r.1.2.length cr, .slice Br r.2.length dr, .bool s.1.1, .slice As s.1.2.length cs, .slice Bs s.2.length ds] 170)).heap.size = w.heap.size + 1 by simp] at ko
  have HKO := Lib.hid (ko.lt (w.heap.size + 1) (by simp))
  go_enter Tryz.func137, Tryz.ntmps137
  have kp_c0 := kp.here.cell 0 _ rfl
  have kp_c1 := kp.here.cell 1 _ rfl
  have kp_c2 := kp.here.cell 2 _ rfl
  have kp_c3 := kp.here.cell 3 _ rfl
  have kp_c4 := kp.here.cell 4 _ rfl
  have kp_c5 := kp.here.cell 5 _ rfl
  go_wp2_with fail
  clear kp_c0 kp_c1 kp_c2 kp_c3 kp_c4 kp_c5
  refine (ok_any r s _ hzr hzs (HS.out.below bb0) (OQr.out _ bb0) (OQs.out _ bb0)).mono ?_
  rintro e w1 ⟨rfl, b1⟩
  have bb1 := Below.next bb0 b1
  replace kp := kp.below b1
  replace ko := ko.below b1
  by_cases hok : (okQ r && okQ s) = true
  · rw [hok]
    have hok2 := (Bool.and_eq_true _ _ ▸ hok : okQ r = true ∧ okQ s = true)
    have HPr := Lib.hid (parts_of hok2.1)
    have HPs := Lib.hid (parts_of hok2.2)
    obtain ⟨N, hN⟩ : ∃ N, subS (leftS r s) (leftS s r) = N := ⟨_, rfl⟩
    obtain ⟨D, hD⟩ : ∃ D, denS r s = D := ⟨_, rfl⟩
    obtain ⟨Q, hQ⟩ : ∃ Q, makeQ N D = Q := ⟨_, rfl⟩
    have EN := Lib.hid hN
    have ED := Lib.hid hD
    have EQ := Lib.hid hQ
    have HV := Lib.hid (show subQ r s = Q by rw [← hQ, ← hN, ← hD]; exact (subQ_make HPr.out HPs.out hok2.1 hok2.2).symm)
    have hzN : szS N ≤ 1048576 := by rw [← hN]; exact part_sz_difference HPr.out HPs.out
    have hzD : szS D ≤ 1048576 := by rw [← hD]; exact part_sz_denominators HPr.out HPs.out
    clear hok hok2 hN hD hQ
    go_wp2_with fail
    refine ((difference_any r s _ HPr.out HPs.out (OQr.out _ bb1) (OQs.out _ bb1)).mono fun _ _ h => newVS_eq EN.out h).mono ?_
    rintro e w2 ⟨un, Sn, rfl, on, ln, b2⟩
    obtain ⟨An, cn, rfl⟩ := ownS_form on.here
    have bb2 := Below.next bb1 b2
    replace kp := kp.below b2
    replace ko := ko.below b2
    go_wp2_with fail
    refine ((denominators_any r s _ HPr.out HPs.out (OQr.out _ bb2) (OQs.out _ bb2)).mono fun _ _ h => newVS_eq ED.out h).mono ?_
    rintro e w3 ⟨ud, Sd, rfl, od, ld, b3⟩
    obtain ⟨Ad, cd, rfl⟩ := ownS_form od.here
    have bb3 := Below.next bb2 b3
    replace kp := kp.below b3
    replace ko := ko.below b3
    replace on := on.below b3
    have hz1 := b1.size
    have hz2 := b2.size
    have hz3 := b3.size
    go_wp2_with fail
    refine ((implRatMake_any _ _ N D _ hzN hzD on.here od.here (HS.out.below bb3)).mono fun _ _ h => postQb_eq EQ.out h).mono ?_
    rintro e w4 ⟨uf, Sf, rfl, of, lf, b4⟩
    obtain ⟨Af, cf, Bf, df, rfl⟩ := ownQ_form of.here
    have bb4 := Below.next bb3 b4
    replace kp := kp.below b4
    replace ko := ko.below b4
    replace on := on.below b4
    replace od := od.below b4
    clear on od
    have HW := Lib.hid (newQb_at (r := w.heap.size + 1) (b := Q.2) of lf (by have := HKO.out; omega) (by omega) bb4)
    have cz0 := ko.here.cell 0 _ rfl
    have fz0 := Lib.frozen_of_heap ko.here 0
    have cz1 := ko.here.cell 1 _ rfl
    have fz1 := Lib.frozen_of_heap ko.here 1
    have cz2 := ko.here.cell 2 _ rfl
    have fz2 := Lib.frozen_of_heap ko.here 2
    clear of ko
    go_wp2
    refine bodyPost_ret (v := .tuple #[.agg #[.bool _, .slice Af _ cf, .slice Bf _ df], .bool _]) (by simp [results, Tryz.results137, go_sem, cz0, cz1, cz2]; exact ⟨⟨rfl, rfl, rfl⟩, rfl⟩) rfl ?_
    rw [HV.out]
    exact HW.out
  · have hok' : (okQ r && okQ s) = false := by simpa using hok
    have HV := Lib.hid (show subQ r s = (zeroQ, false) from subQ_none (fun h => hok (by rw [h.1, h.2]; rfl)))
    rw [hok']
    clear hok hok'
    have ko_c0 := ko.here.cell 0 _ rfl
    have ko_c1 := ko.here.cell 1 _ rfl
    have ko_c2 := ko.here.cell 2 _ rfl
    have cz0 := ko.here.cell 0 _ rfl
    have fz0 := Lib.frozen_of_heap ko.here 0
    have cz1 := ko.here.cell 1 _ rfl
    have fz1 := Lib.frozen_of_heap ko.here 1
    have cz2 := ko.here.cell 2 _ rfl
    have fz2 := Lib.frozen_of_heap ko.here 2
    go_wp2
    refine bodyPost_ret (v := .tuple #[.agg #[.bool false, .slice none 0 0, .slice none 0 0], .bool false]) (by simp [results, Tryz.results137, go_sem, cz0, cz1, cz2]) rfl ?_
    rw [HV.out]
    first | exact newQb_zero _ bb1 | exact newQb_zero _ (below_set3 bb1 (by omega))
set_option maxHeartbeats 2000000 in
set_option maxRecDepth 100000 in
theorem implRatSub_any (vr vs : Value) (r s : QI) (w : World) (hzr : szQ r ≤ 1048576) (hzs : szQ s ≤ 1048576) (hr : OwnQ vr r w) (hs : OwnQ vs s w) (hsen : Sen w) :
    Calls Tryz.prog 96 #[vr, vs] w (PostQb (subQ r s).1 (subQ r s).2 w) := by
  have HS := Lib.hid hsen
  clear hsen
  have Hr := Lib.hid hr
  obtain ⟨Ar, cr, Br, dr, rfl⟩ := ownQ_form hr
  have OQr := Lib.hid (show ∀ W, Below w.heap.size w W → OwnQ (.agg #[.bool r.1.1, .slice Ar r.1.2.length cr, .slice Br r.2.length dr]) r W from fun W hb => OwnQ.below Hr.out hb)
  have OUr := Lib.hid (show ∀ W, Below w.heap.size w W → OwnI (.slice Ar r.1.2.length cr) r.1.2 W from fun W hb => (ownQ_open (OQr.out W hb)).2.1)
  have ODr := Lib.hid (show ∀ W, Below w.heap.size w W → OwnI (.slice Br r.2.length dr) r.2 W from fun W hb => (ownQ_open (OQr.out W hb)).2.2.1)
  have OSr := Lib.hid (show ∀ W, Below w.heap.size w W → OwnS (.agg #[.bool r.1.1, .slice Ar r.1.2.length cr]) r.1 W from fun W hb => OwnS.mk (OUr.out W hb))
  clear hr
  have Hs := Lib.hid hs
  obtain ⟨As, cs, Bs, ds, rfl⟩ := ownQ_form hs
  have OQs := Lib.hid (show ∀ W, Below w.heap.size w W → OwnQ (.agg #[.bool s.1.1, .slice As s.1.2.length cs, .slice Bs s.2.length ds]) s W from fun W hb => OwnQ.below Hs.out hb)
  have OUs := Lib.hid (show ∀ W, Below w.heap.size w W → OwnI (.slice As s.1.2.length cs) s.1.2 W from fun W hb => (ownQ_open (OQs.out W hb)).2.1)
  have ODs := Lib.hid (show ∀ W, Below w.heap.size w W → OwnI (.slice Bs s.2.length ds) s.2 W from fun W hb => (ownQ_open (OQs.out W hb)).2.2.1)
  have OSs := Lib.hid (show ∀ W, Below w.heap.size w W → OwnS (.agg #[.bool s.1.1, .slice As s.1.2.length cs]) s.1 W from fun W hb => OwnS.mk (OUs.out W hb))
  clear hs
  have hmf : ∀ (fn : Fn) (first cap : Array Value) (w : World), (Instr.makeFunc fn first cap).run Tryz.prog w = .ok (.func fn first cap) w := fun _ _ _ _ => rfl
  have bb0 : Below w.heap.size w ((((w.alloc (.cells #[.bool r.1.1, .slice Ar r.1.2.length cr, .slice Br r.2.length dr] 51)).alloc (.cells #[.bool s.1.1, .slice As s.1.2.length cs, .slice Bs s.2.length ds] 51)).alloc (.cells #[.bool false, .slice none 0 0, .slice none 0 0] 51)).alloc (.cells #[.bool r.1.1, .slice Ar r.1.2.length cr, .slice Br r.2.length dr, .bool s.1.1, .slice As s.1.2.length cs, .slice Bs s.2.length ds] 170)) := below_al (below_al (below_al (below_al (Below.refl _ _) _) _) _) _
  have kr := (box_new w #[.bool r.1.1, .slice Ar r.1.2.length cr, .slice Br r.2.length dr] 51).below (below_al (below_al (below_al (Below.refl _ _) (.cells #[.bool s.1.1, .slice As s.1.2.length cs, .slice Bs s.2.length ds] 51)) (.cells #[.bool false, .slice none 0 0, .slice none 0 0] 51)) (.cells #[.bool r.1.1, .slice Ar r.1.2.length cr, .slice Br r.2.length dr, .bool s.1.1, .slice As s.1.2.length cs, .slice Bs s.2.length ds] 170))
  have ks := (box_new (w.alloc (.cells #[.bool r.1.1, .slice Ar r.1.2.length cr, .slice Br r.2.length dr] 51)) #[.bool s.1.1, .slice As s.1.2.length cs, .slice Bs s.2.length ds] 51).below (below_al (below_al (Below.refl _ _) (.cells #[.bool false, .slice none 0 0, .slice none 0 0] 51)) (.cells #[.bool r.1.1, .slice Ar r.1.2.length cr, .slice Br r.2.length dr, .bool s.1.1, .slice As s.1.2.length cs, .slice Bs s.2.length ds] 170))
  rw [show (w.alloc (.cells #[.bool r.1.1, .slice Ar r.1.2.length cr, .slice Br r.2.length dr] 51)).heap.size = w.heap.size + 1 by simp] at ks
  have ko := (box_new ((w.alloc (.cells #[.bool r.1.1, .slice Ar r.1.2.length cr, .slice Br r.2.length dr] 51)).alloc (.cells #[.bool s.1.1, .slice As s.1.2.length cs, .slice Bs s.2.length ds] 51)) #[.bool false, .slice none 0 0, .slice none 0 0] 51).below (below_al (Below.refl _ _) (.cells #[.bool r.1.1, .slice Ar r.1.2.length cr, .slice Br r.2.length dr, .bool s.1.1, .slice As s.1.2.length cs, .slice Bs s.2.length ds] 170))
  rw [show ((w.alloc (.cells #[.bool r.1.1, .slice Ar r.1.2.length cr, .slice Br r.2.length dr] 51)).alloc (.cells #[.bool s.1.1, .slice As s.1.2.length cs, .slice Bs s.2.length ds] 51)).heap.size = w.heap.size + 1 + 1 by simp] at ko
  have kp := (box_new (((w.alloc (.cells #[.bool r.1.1, .slice Ar r.1.2.length cr, .slice Br r.2.length dr] 51)).alloc (.cells #[.bool s.1.1, .slice As s.1.2.length cs, .slice Bs s.2.length ds] 51)).alloc (.cells #[.bool false, .slice none 0 0, .slice none 0 0] 51)) #[.bool r.1.1, .slice Ar r.1.2.length cr, .slice Br r.2.length dr, .bool s.1.1, .slice As s.1.2.length cs, .slice Bs s.2.length ds] 170)
  rw [show (((w.alloc (.cells #[.bool r.1.1, .slice Ar r.1.2.length cr, .slice Br r.2.length dr] 51)).alloc (.cells #[.bool s.1.1, .slice As s.1.2.length cs, .slice Bs s.2.length ds] 51)).alloc (.cells #[.bool false, .slice none 0 0, .slice none 0 0] 51)).heap.size = w.heap.size + 1 + 1 + 1 by simp] at kp
  have HKO := Lib.hid (ko.lt (w.heap.size + 1 + 1) (by simp))
  obtain ⟨Q, hQ⟩ : ∃ Q, subQ r s = Q := ⟨_, rfl⟩
  have EQ := Lib.hid hQ
  rw [hQ]
  clear hQ
  go_enter Tryz.func96, Tryz.ntmps96
  have hz1 := HKO.out
  go_wp2_with fail
  refine ((combineRatSub_any r s _ hzr hzs (HS.out.below bb0) (OQr.out _ bb0) (OQs.out _ bb0)).mono fun _ _ h => postQb_eq EQ.out h).mono ?_
  rintro e w1 ⟨uf, Sf, rfl, of, lf, b1⟩
  obtain ⟨Af, cf, Bf, df, rfl⟩ := ownQ_form of.here
  have bb1 := Below.next bb0 b1
  replace kr := kr.below b1
  replace ks := ks.below b1
  replace ko := ko.below b1
  replace kp := kp.below b1
  have HW := Lib.hid (newQb_at (r := w.heap.size + 1 + 1) (b := Q.2) of lf HKO.out (by omega) bb1)
  have cz0 := ko.here.cell 0 _ rfl
  have fz0 := Lib.frozen_of_heap ko.here 0
  have cz1 := ko.here.cell 1 _ rfl
  have fz1 := Lib.frozen_of_heap ko.here 1
  have cz2 := ko.here.cell 2 _ rfl
  have fz2 := Lib.frozen_of_heap ko.here 2
  clear of ko kp kr ks
  go_wp2
  refine bodyPost_ret (v := .tuple #[.agg #[.bool _, .slice Af _ cf, .slice Bf _ df], .bool _]) (by simp [results, Tryz.results96, go_sem, cz0, cz1, cz2]; exact ⟨⟨rfl, rfl, rfl⟩, rfl⟩) rfl ?_
  exact HW.out
end Go.Proofs.YtcenmdiblbooeaaGreatDoor

namespace Go.Proofs.YtcenmdiblbooeaaGreatDoor
open Go.RowKit

theorem int_step {m n : Int} {out : List Int} {f : Nat} (hz : ¬ m = 0) (hol : out.length + f ≤ 3) (hmf : m.natAbs < 1000000000 ^ f) (he : out ++ limbs m.natAbs = limbs n.natAbs) (hq : (m.tdiv 1000000000).natAbs = m.natAbs / 1000000000) :
    ∃ g : Nat, (out ++ [((m.natAbs % 1000000000 : Nat) : Int)]).length + g ≤ 3 ∧ (m.tdiv 1000000000).natAbs < 1000000000 ^ g ∧ out ++ [((m.natAbs % 1000000000 : Nat) : Int)] ++ limbs (m.tdiv 1000000000).natAbs = limbs n.natAbs := by
  cases f with
  | zero => simp at hmf; omega
  | succ g =>
    refine ⟨g, by simp; omega, ?_, ?_⟩
    · rw [hq]
      rw [Nat.pow_succ, Nat.mul_comm] at hmf
      exact Nat.div_lt_of_lt_mul hmf
    · rw [hq, ← he, limbs_pos m.natAbs (by omega), List.append_assoc]
      rfl
theorem intOf_mk (n : Int) {s : Bool} (h : decide (n < 0) = s) : mkS s (limbs n.natAbs) = ofZ n := by
  rw [mkS_limbs]
  congr 1
  subst h
  by_cases hn : n < 0
  · rw [if_pos (by simpa using hn)]; omega
  · rw [if_neg (by simpa using hn)]; omega
set_option maxHeartbeats 1000000 in
set_option maxRecDepth 100000 in
theorem implIntOf_any (n : Int) (w : World) (h0 : -9223372036854775808 ≤ n) (h1 : n ≤ 9223372036854775807) :
    Calls Tryz.prog 41 #[.int .i64 n] w (NewS (ofZ n) w) := by
  obtain ⟨i0, hi, hz0, hz1, hz2⟩ := info_parts intInfo
  have hbb : Below w.heap.size w (w.alloc (.cells #[.bool false, .slice none 0 0] 25)) := below_al (Below.refl _ _) _
  have kr := box_new w #[.bool false, .slice none 0 0] 25
  obtain ⟨W0, hW0⟩ : ∃ W0, W0 = w.alloc (.cells #[.bool false, .slice none 0 0] 25) := ⟨_, rfl⟩
  rw [← hW0] at hbb kr
  have hW0s : W0.heap.size = w.heap.size + 1 := by rw [hW0]; simp
  have HW := Lib.hid hW0
  clear hW0
  obtain ⟨s, hs, hs2⟩ : ∃ s, decide (n < 0) = s ∧ Hid (decide (n < 0) = s) := ⟨_, rfl, Lib.hid rfl⟩
  go_enter Tryz.func41, Tryz.ntmps41
  go_wp2_with fail
  obtain ⟨W1, hW1⟩ : ∃ W1, W1 = W0.alloc (.cells #[.slice none 0 0, .bool s] 121) := ⟨_, rfl⟩
  have hx0 : NatX (intK s) (w.heap.size + 1) W0.heap.size [] W1 := by rw [hW1]; exact NatX.late (n := s) (W := W0) (B0 := w.heap.size + 1) (xs := []) (World.ownsRow_nil W0 (w.heap.size + 1) 3 1) (Nat.le_refl _) (by omega)
  have hb0 : Below W0.heap.size W0 W1 := by rw [hW1]; exact below_al (Below.refl _ _) _
  rw [hW0s] at hx0
  go_loopw [0] (fun a wr => ∃ (m : Int) (out : List Int) (f : Nat), -9223372036854775808 ≤ m ∧ m ≤ 9223372036854775807 ∧ out.length + f ≤ 3 ∧ m.natAbs < 1000000000 ^ f ∧ a = .int .i64 m ∧ Hid (out ++ limbs m.natAbs = limbs n.natAbs) ∧ Hid (NatX (intK s) (w.heap.size + 1) (w.heap.size + 1) out wr) ∧ Hid (Below (w.heap.size + 1) W0 wr)) (fun a _ => (intOf a).natAbs)
  case atStart =>
    rw [← HW.out, ← hW1]
    exact ⟨n, [], 3, h0, h1, by simp, by omega, rfl, Lib.hid rfl, Lib.hid hx0, Lib.hid (by rw [hW0s] at hb0; exact hb0)⟩
  case round =>
    obtain ⟨m, out, f, hm0, hm1, hol, hmf, rfl, HE, HX, HB⟩ := hrel
    by_cases hz : m = 0
    · subst hz
      have hout : out = limbs n.natAbs := by
        have e := HE.out
        rwa [show (0 : Int).natAbs = 0 from rfl, limbs_none, List.append_nil] at e
      subst hout
      have bb1 : Below w.heap.size w wr := below_low hbb HB.out (by omega)
      have kr1 := kr.belowB HB.out (fun g hg => by simp at hg; omega)
      go_wp2_with fail
      refine (signed_any _ _ _ _ _ (by omega) HX.out).mono ?_
      rw [intOf_mk n hs2.out]
      rintro e w4 ⟨u4', rfl, o4, b4⟩
      generalize ofZ n = z at *
      obtain ⟨A4, c4, rfl⟩ := own_len o4
      have bb4 := Below.next bb1 b4
      have kr4 := kr1.below b4
      have cz0 := kr4.here.cell 0 _ rfl
      have cz1 := kr4.here.cell 1 _ rfl
      have fz0 := Lib.frozen_of_heap kr4.here 0
      have fz1 := Lib.frozen_of_heap kr4.here 1
      have HO := Lib.hid o4
      have HK := Lib.hid kr4
      clear o4 kr1 kr4 kr HX HB HE
      go_wp2
      refine bodyPost_ret (v := .agg #[.bool _, .slice A4 _ c4]) (by simp [results, Tryz.results41, go_sem, cz0, cz1]; exact ⟨rfl, rfl⟩) rfl ?_
      exact newS_ret HK.out.here HO.out (by omega) (Nat.le_refl _) bb4
    · have hzb : (m == 0) = false := by rw [beq_eq_false_iff_ne]; exact hz
      have hzb2 : (m != 0) = true := by rw [bne_iff_ne]; exact hz
      obtain ⟨hB, u, hbk, hown, hne⟩ := HX.out
      have hlt := HX.out.lt
      obtain ⟨A, c, rfl⟩ := own_len hown
      have c1 : wr.cell? ⟨w.heap.size + 1, 0, none⟩ = some (.slice A out.length c) := NatX.cell hbk
      have hra : (m.tmod 1000000000).natAbs = m.natAbs % 1000000000 := Int.natAbs_tmod m 1000000000
      have hqa : (m.tdiv 1000000000).natAbs = m.natAbs / 1000000000 := Int.natAbs_tdiv m 1000000000
      have hr0 : -999999999 ≤ m.tmod 1000000000 := by omega
      have hr1 : m.tmod 1000000000 ≤ 999999999 := by omega
      have HR := Lib.hid hra
      have HQ := Lib.hid hqa
      have HBK := Lib.hid hbk
      have HNE := Lib.hid hne
      clear hra hqa hbk hne
      go_wp2_with (at_builtin; refine wpList_append_own _ rfl (.tmp 16) (.tmp 21) 23 rfl (w.heap.size + 1) 3 i0 (.int .i64 0) 1 8 Tryz.underlying23 hi hz0 hz1 hz2 rfl (by decide) _ _ _ rfl (own_alloc hown _) ⟨wr.heap.size, 0, none⟩ 1 1 [.int .i64 _] rfl rfl (one_new _ _ _) ?c2 ?c3 ?c4 ?c5 ?_)
      any_goals (first | rfl | (unfold maxLen; omega) | omega)
      all_goals
        intro v1 w1 hown1 hg1 _
        have hdig : Hid (w1.ownsRow (w.heap.size + 1) 3 1 v1 (out ++ [((m.natAbs % 1000000000 : Nat) : Int)]).length (intsV (out ++ [((m.natAbs % 1000000000 : Nat) : Int)]))) := Lib.hid (by
          have hra := HR.out
          first
            | (have e : max (m.tmod 1000000000) (-m.tmod 1000000000) = ((m.natAbs % 1000000000 : Nat) : Int) := by omega
               rw [e] at hown1
               simpa [intsV] using hown1)
            | (have e : -m.tmod 1000000000 = ((m.natAbs % 1000000000 : Nat) : Int) := by omega
               rw [e] at hown1
               simpa [intsV] using hown1)
            | (have e : m.tmod 1000000000 = ((m.natAbs % 1000000000 : Nat) : Int) := by omega
               rw [e] at hown1
               simpa [intsV] using hown1))
        have hb2 : w1.heap[w.heap.size + 1]? = some (.cells (.slice A out.length c :: (intK s).rest).toArray (intK s).ty (0, 0)) := by
          rw [hg1.block _ (by simp; omega) (fun e => HNE.out e.symm), Below.heap_alloc _ _ _ hlt]
          exact HBK.out
        have d1 : w1.cell? ⟨w.heap.size + 1, 0, none⟩ = some (.slice A out.length c) := NatX.cell hb2
        have f1 : w1.frozen? ⟨w.heap.size + 1, 0, none⟩ = false := Lib.frozen_of_heap hb2 0
        have hb3 : Below (w.heap.size + 1) W0 w1 := (HB.out.alloc (by omega) _).grown hg1 (by simp; omega) (fun k hk => (own_lt hown hk).1)
        obtain ⟨A1, cc1, rfl⟩ := own_len hdig.out
        have HP := Lib.hid (NatX.put (K := intK s) hB hb2 hdig.out)
        have HB3 := Lib.hid (hb3.setCell (p := ⟨w.heap.size + 1, 0, none⟩) (Nat.le_refl _) (.slice A1 (out ++ [((m.natAbs % 1000000000 : Nat) : Int)]).length cc1))
        have hlen : (out ++ [((m.natAbs % 1000000000 : Nat) : Int)]).length = out.length + 1 := by simp
        rw [hlen] at HP HB3
        have hqb : -9223372036854775808 ≤ m.tdiv 1000000000 ∧ m.tdiv 1000000000 ≤ 9223372036854775807 ∧ (m.tdiv 1000000000).natAbs < m.natAbs := by have := HQ.out; omega
        have HQB := Lib.hid hqb
        have HN := Lib.hid (int_step hz hol hmf HE.out HQ.out)
        clear hb2 hb3 hown hown1 hg1 hdig c1
        clear hr0 hr1 HR hmf hqb hlen
        go_wp2_with fail
        obtain ⟨g, h1, h2, h3⟩ := HN.out
        exact ⟨⟨_, _, g, HQB.out.1, HQB.out.2.1, h1, h2, rfl, Lib.hid h3, Lib.hid HP.out, HB3⟩, by simpa [intOf] using HQB.out.2.2⟩
end Go.Proofs.YtcenmdiblbooeaaGreatDoor

namespace Go.Proofs.YtcenmdiblbooeaaGreatDoor
open Go.RowKit

set_option maxHeartbeats 2000000 in
set_option maxRecDepth 100000 in
theorem implRatInt_any (va : Value) (a : SI) (w : World) (hza : szS a ≤ 1048576) (ha : OwnS va a w) (hsen : Sen w) :
    Calls Tryz.prog 95 #[va] w (PostQb (makeQ a (ofZ 1)).1 (makeQ a (ofZ 1)).2 w) := by
  have HS := Lib.hid hsen
  clear hsen
  have Ha := Lib.hid ha
  obtain ⟨Aa, ca, rfl⟩ := ownS_form ha
  have OSa := Lib.hid (show ∀ W, Below w.heap.size w W → OwnS (.agg #[.bool a.1, .slice Aa a.2.length ca]) a W from fun W hb => OwnS.below Ha.out hb)
  have OIa := Lib.hid (show ∀ W, Below w.heap.size w W → OwnI (.slice Aa a.2.length ca) a.2 W from fun W hb => ownS_open (OSa.out W hb))
  clear ha
  have bb0 : Below w.heap.size w ((w.alloc (.cells #[.bool a.1, .slice Aa a.2.length ca] 25)).alloc (.cells #[.bool false, .slice none 0 0, .slice none 0 0] 51)) := below_al (below_al (Below.refl _ _) _) _
  have ka := (box_new w #[.bool a.1, .slice Aa a.2.length ca] 25).below (below_al (Below.refl _ _) (.cells #[.bool false, .slice none 0 0, .slice none 0 0] 51))
  have ko := (box_new (w.alloc (.cells #[.bool a.1, .slice Aa a.2.length ca] 25)) #[.bool false, .slice none 0 0, .slice none 0 0] 51)
  rw [show (w.alloc (.cells #[.bool a.1, .slice Aa a.2.length ca] 25)).heap.size = w.heap.size + 1 by simp] at ko
  have HKO := Lib.hid (ko.lt (w.heap.size + 1) (by simp))
  obtain ⟨Q, hQ⟩ : ∃ Q, makeQ a (ofZ 1) = Q := ⟨_, rfl⟩
  have EQ := Lib.hid hQ
  rw [hQ]
  clear hQ
  obtain ⟨W0, hW0⟩ : ∃ W0, W0 = ((w.alloc (.cells #[.bool a.1, .slice Aa a.2.length ca] 25)).alloc (.cells #[.bool false, .slice none 0 0, .slice none 0 0] 51)) := ⟨_, rfl⟩
  rw [← hW0] at bb0 ka ko HKO
  have HW0 := Lib.hid hW0
  clear hW0
  have hz0 := HKO.out
  go_enter Tryz.func95, Tryz.ntmps95
  have ka_c0 := ka.here.cell 0 _ rfl
  have ka_c1 := ka.here.cell 1 _ rfl
  go_wp2_with fail
  rw [← HW0.out]
  have HC0 := Lib.hid (show Chg [w.heap.size + 1] W0 W0.drew from (Chg.refl _ _).drew1)
  have HCr := Lib.hid (show Chg [w.heap.size + 1] W0 W0 from Chg.refl _ _)
  have KL := Lib.hid (show ∀ W, Chg [w.heap.size + 1] W0 W → W.cell? ⟨w.heap.size, 0, none⟩ = some (.bool a.1) ∧ W.cell? ⟨w.heap.size, 1, none⟩ = some (.slice Aa a.2.length ca) ∧ Hid (Chg [w.heap.size + 1] W0 W) from fun W hc => ⟨(ka.chg hc (fun i hi hm => by simp at hi hm; omega)).here.cell 0 _ rfl, (ka.chg hc (fun i hi hm => by simp at hi hm; omega)).here.cell 1 _ rfl, Lib.hid hc⟩)
  have BBF := Lib.hid (show ∀ W, Chg [w.heap.size + 1] W0 W → Below w.heap.size w W from fun W hc => below_chg bb0 hc bb0.size (fun i hi => by simp at hi; omega))
  clear ka_c0 ka_c1
  go_region_held3 (fun W => W.cell? ⟨w.heap.size, 0, none⟩ = some (.bool a.1) ∧ W.cell? ⟨w.heap.size, 1, none⟩ = some (.slice Aa a.2.length ca) ∧ Hid (Chg [w.heap.size + 1] W0 W))
    ((refine KL.out _ ?_; (first | exact HC2.out | exact HC1.out | exact HCr.out | exact HC0.out | exact HC2.out.drew1 | exact HC1.out.drew1 | exact HCr.out.drew1 | exact HC0.out.drew1 | exact HC2.out.trans (Chg.of_below (below_al (Below.refl _ _) _)) | exact HC1.out.trans (Chg.of_below (below_al (Below.refl _ _) _)) | exact HCr.out.trans (Chg.of_below (below_al (Below.refl _ _) _)) | exact HC0.out.trans (Chg.of_below (below_al (Below.refl _ _) _)) | exact (Chg.setCell HC2.out (by simp) _) | exact (Chg.setCell (Chg.setCell HC2.out (by simp) _) (by simp) _) | exact (Chg.setCell (Chg.setCell (Chg.setCell HC2.out (by simp) _) (by simp) _) (by simp) _) | fail)))
    (first
      | (go_at_call 41; (have hBB := (‹_ ∧ _ ∧ Hid (Chg [w.heap.size + 1] W0 _)›).2.2); (with_reducible refine ((implIntOf_any 1 _ (by decide) (by decide)).mono fun _ _ h => NewS.newV h).mono ?_); rintro e w1 ⟨ui, Si, rfl, oi, li, b1⟩; have HC1 := Lib.hid (hBB.out.trans (Chg.of_below b1)); (have ko_1 := At.below (by first | exact ko | exact At.below ko (below_al (Below.refl _ _) _) | exact At.below (At.below ko (below_al (Below.refl _ _) _)) (below_al (Below.refl _ _) _) | exact At.move ko (fun _ _ => rfl) (Nat.le_refl _)) b1); obtain ⟨Ai, ci, rfl⟩ := ownS_form oi.here; have HBZ1 := Lib.hid hBB.out.size; clear hBB)
      | (go_at_call 136; (have hBB := (‹_ ∧ _ ∧ Hid (Chg [w.heap.size + 1] W0 _)›).2.2); (with_reducible refine ((implRatMake_any _ _ a (ofZ 1) _ hza one_szS (OSa.out _ (BBF.out _ hBB.out)) (At.here (by first | exact oi | exact At.below oi (below_al (Below.refl _ _) _) | exact At.below (At.below oi (below_al (Below.refl _ _) _)) (below_al (Below.refl _ _) _) | exact At.move oi (fun _ _ => rfl) (Nat.le_refl _))) (HS.out.below (BBF.out _ hBB.out))).mono fun _ _ h => postQb_eq EQ.out h).mono ?_); rintro e w2 ⟨uf, Sf, rfl, of, lf, b2⟩; have HC2 := Lib.hid (hBB.out.trans (Chg.of_below b2)); (have ko_2 := At.below (by first | exact ko_1 | exact At.below ko_1 (below_al (Below.refl _ _) _) | exact At.below (At.below ko_1 (below_al (Below.refl _ _) _)) (below_al (Below.refl _ _) _) | exact At.move ko_1 (fun _ _ => rfl) (Nat.le_refl _)) b2); (have oi_2 := At.below (by first | exact oi | exact At.below oi (below_al (Below.refl _ _) _) | exact At.below (At.below oi (below_al (Below.refl _ _) _)) (below_al (Below.refl _ _) _) | exact At.move oi (fun _ _ => rfl) (Nat.le_refl _)) b2); obtain ⟨Af, cf, Bf, df, rfl⟩ := ownQ_form of.here; have cz0 := ko_2.here.cell 0 _ rfl; have fz0 := Lib.frozen_of_heap ko_2.here 0; have cz1 := ko_2.here.cell 1 _ rfl; have fz1 := Lib.frozen_of_heap ko_2.here 1; have cz2 := ko_2.here.cell 2 _ rfl; have fz2 := Lib.frozen_of_heap ko_2.here 2; have HBZ2 := Lib.hid hBB.out.size; clear hBB))
  have bb2 := BBF.out _ HC2.out
  replace ka := ka.chg HC2.out (fun i hi hm => by simp at hi hm; omega)
  replace ko := ko_2
  have oi := oi_2
  have HW := Lib.hid (newQb_at (r := w.heap.size + 1) (b := Q.2) of lf (by have := HBZ2.out; omega) (by omega) bb2)
  clear of ko ka oi
  go_wp2
  refine bodyPost_ret (v := .tuple #[.agg #[.bool _, .slice Af _ cf, .slice Bf _ df], .bool _]) (by simp [results, Tryz.results95, go_sem, cz0, cz1, cz2]; exact ⟨⟨rfl, rfl, rfl⟩, rfl⟩) rfl ?_
  exact HW.out
end Go.Proofs.YtcenmdiblbooeaaGreatDoor

namespace Go.Proofs.YtcenmdiblbooeaaGreatDoor
open Go.RowKit

set_option maxHeartbeats 400000 in
set_option maxRecDepth 100000 in
theorem implNatEven_any (v : Value) (a : List Int) (lo hi : Nat) (w : World) (hl : a.length ≤ 1048576) (hr : Row w lo hi v (intsV a)) :
    Calls Tryz.prog 205 #[v] w fun e w' => e = .returned (.bool (evenB a)) ∧ w = w' := by
  by_cases oa : natOkB a = true
  · have hd := (natOk_parts oa).1
    have hg : a.getD 0 0 = a.headD 0 := by cases a <;> rfl
    have hx : 0 ≤ a.headD 0 ∧ a.headD 0 ≤ 999999999 := by
      cases a with
      | nil => exact ⟨Int.le_refl _, by decide⟩
      | cons x r => exact hd.head
    have HV := Lib.hid (show evenB a = (a.headD 0 % 2 == 0) by unfold evenB; rw [oa, Bool.true_and, Bool.eq_iff_iff, decide_eq_true_eq, beq_iff_eq])
    have hx0 := hx.1
    have hx1 := hx.2
    clear hd hx
    go_enter Tryz.func205, Tryz.ntmps205
    go_wp2_with fail
    refine (implNatOk_same v a lo hi _ (by omega) hr).mono ?_
    rintro e w' ⟨rfl, rfl⟩
    rw [oa]
    go_wp2_with fail
    refine (limbAt_any v a 0 lo hi _ hl hr).mono ?_
    rintro e w' ⟨rfl, rfl⟩
    rw [if_neg (by decide), show (0 : Int).toNat = 0 from rfl, hg]
    generalize a.headD 0 = x at *
    go_wp2
    go_ret
    exact ⟨ret_bool HV.out.symm, rfl⟩
  · have oa' : natOkB a = false := by simpa using oa
    have HV := Lib.hid (show evenB a = false by unfold evenB; rw [oa', Bool.false_and])
    clear oa
    go_enter Tryz.func205, Tryz.ntmps205
    go_wp2_with fail
    refine (implNatOk_same v a lo hi _ (by omega) hr).mono ?_
    rintro e w' ⟨rfl, rfl⟩
    rw [oa']
    go_wp2
    go_ret
    exact ⟨ret_bool HV.out.symm, rfl⟩
end Go.Proofs.YtcenmdiblbooeaaGreatDoor

namespace Go.Proofs.YtcenmdiblbooeaaGreatDoor
open Go.RowKit

theorem addN_small {X Y : Nat} (h : ((X + Y : Nat) : Int) < bp 50) : addN (limbs X) (limbs Y) = limbs (X + Y) := by
  have hx : (limbs X).length ≤ 50 := limbs_length_le _ 50 (by omega)
  have hy : (limbs Y).length ≤ 50 := limbs_length_le _ 50 (by omega)
  have hs : (limbs (X + Y)).length ≤ 50 := limbs_length_le _ 50 h
  unfold addN
  rw [if_pos ⟨limbs_okL _ hx, limbs_okL _ hy⟩, limbs_val, limbs_val]
  unfold natRes
  rw [show ((X : Int) + (Y : Int)).toNat = X + Y by omega]
  unfold capL
  rw [if_neg (by omega)]
theorem addN_len50 (a b : List Int) : (addN a b).length ≤ 50 := by
  unfold addN
  split
  · unfold natRes capL
    split
    · simp
    · omega
  · simp
/-- the limbs of a rounded quotient -/
def quoL (neg : Bool) (A D : Nat) (m : Int) : List Int := if A % D ≠ 0 ∧ awayB neg (A / D) (A % D) D m = true then addN (limbs (A / D)) (limbs 1) else limbs (A / D)
theorem quoL_is {neg : Bool} {A D : Nat} {m : Int} (h : ((A / D : Nat) : Int) + 1 < bp 50) : quoL neg A D m = limbs (roundN neg A D m) := by
  unfold quoL roundN
  split
  · exact addN_small (by omega)
  · rw [Nat.add_zero]
theorem quoL_len {neg : Bool} {A D : Nat} {m : Int} (h : (limbs (A / D)).length ≤ 50) : (quoL neg A D m).length ≤ 50 := by
  unfold quoL
  split
  · exact addN_len50 _ _
  · exact h
theorem quoL_plain {neg : Bool} {A D Q R : Nat} {m : Int} (hq : A / D = Q) (hr : A % D = R) (h : R = 0 ∨ awayB neg Q R D m = false) : quoL neg A D m = limbs Q := by
  unfold quoL
  rw [hq, hr, if_neg (fun e => by rcases h with h | h; exact e.1 h; rw [h] at e; exact absurd e.2 (by decide))]
theorem quoL_more {neg : Bool} {A D Q R : Nat} {m : Int} (hq : A / D = Q) (hr : A % D = R) (h : R ≠ 0) (ha : awayB neg Q R D m = true) : quoL neg A D m = addN (limbs Q) (limbs 1) := by
  unfold quoL
  rw [hq, hr, if_pos ⟨h, ha⟩]
theorem mkS_quo {neg : Bool} {xs : List Int} {sg : Bool} (h : xs.length ≤ 50) (hs : (neg && decide (0 < xs.length)) = sg) : mkS neg xs = (sg, xs) := by
  unfold mkS capL
  rw [if_neg (by omega), hs]
end Go.Proofs.YtcenmdiblbooeaaGreatDoor
