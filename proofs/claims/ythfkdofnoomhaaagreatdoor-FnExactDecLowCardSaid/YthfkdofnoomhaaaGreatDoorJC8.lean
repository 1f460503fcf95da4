/-
  Chapter 5 of package impl: sums and differences.
  Chapter 5 of package impl: the number of a signed one, its order and its sign.
  Chapter 8 of package impl: what its functions return that need no fractions.
-/
import Derived.Test.YthfkdofnoomhaaaGreatDoorJC7
namespace Go.Proofs.YthfkdofnoomhaaaGreatDoor
open Go.RowKit

theorem At.belowB {S : List Nat} {φ : World → Prop} {w w' : World} {B : Nat} (h : At S φ w) (hb : Below B w w') (hS : ∀ g ∈ S, g < B) : At S φ w' := h.move (fun g hg => hb.block g (hS g hg)) hb.size
theorem add_mk {P Q : SI} (okp : okS P = true) (okq : okS Q = true) (hs : P.1 = Q.1) : mkS P.1 (limbs (nval P.2 + nval Q.2).toNat) = ofZ (valS P + valS Q) := by
  have h0p := nval_ok (okS_parts okp).1
  have h0q := nval_ok (okS_parts okq).1
  rw [mkS_limbs]
  congr 1
  unfold valS
  rw [← hs]
  split <;> omega
theorem sub_mk {P Q : SI} (okp : okS P = true) (okq : okS Q = true) (hs : ¬ P.1 = Q.1) (hle : nval Q.2 ≤ nval P.2) : mkS P.1 (limbs (nval P.2 - nval Q.2).toNat) = ofZ (valS P + valS Q) := by
  have h0p := nval_ok (okS_parts okp).1
  have h0q := nval_ok (okS_parts okq).1
  rw [mkS_limbs]
  congr 1
  unfold valS
  cases hp : P.1 <;> cases hq : Q.1 <;> simp_all <;> omega
theorem addS_ok {x y : SI} (okx : okS x = true) (oky : okS y = true) : addS x y = ofZ (valS x + valS y) := by unfold addS; rw [if_pos ⟨okx, oky⟩]
theorem swap_box {g : Nat} {a b : Value} {c0 c1 : Value} {W : World} (h : BoxAt g #[c0, c1] 28 W) : BoxAt g #[a, b] 28 ((W.setCell ⟨g, 0, none⟩ a).setCell ⟨g, 1, none⟩ b) := by
  have h' : W.heap[g]? = some (.cells #[c0, c1] 28 (0, 0)) := h
  simp [BoxAt, World.setCell, Array.getElem?_modify, h']

theorem NatX.drew1 {K : NatK} {B b : Nat} {xs : List Int} {w : World} (h : NatX K B b xs w) : NatX K B b xs w.drew := h
theorem Row.drew1 {w : World} {lo hi : Nat} {v : Value} {xs : List Value} (h : Row w lo hi v xs) : Row w.drew lo hi v xs := h
theorem natAdd_any {K : NatK} (B b : Nat) (xs : List Int) (vy : Value) (ys : List Int) (lo hi : Nat) (w : World) (oa : natOkB xs = true) (ob : natOkB ys = true) (hhi : hi ≤ B) (hr : Row w lo hi vy (intsV ys)) (h : NatX K B b xs w) :
    Calls Tryz.prog 170 #[.pointer (some ⟨b, 0, none⟩), vy, .int .i64 1, .int .i64 0] w fun e w' => e = .returned (.tuple #[]) ∧ LeftX K B b (limbs (nval xs + nval ys).toNat) w w' := by
  have pa := natOk_parts oa
  have pb := natOk_parts ob
  refine (addTimes_any B b xs vy ys lo hi 1 0 w (by omega) (by omega) (by omega) (by omega) (by omega) pa.1 pb.1 hhi hr h).mono ?_
  rintro e w' ⟨rfl, zs, hl, hd, hv, hlen⟩
  rw [← add_limbs oa ob hd hv hlen]
  exact ⟨rfl, hl⟩
theorem nval_b50 {xs : List Int} (h : natOkB xs = true) : nval xs < bp 50 := by
  have p := natOk_parts h
  have h1 := nval_lt xs p.1
  have h2 := bp_mono p.2.1
  omega
theorem sum_short {xs ys : List Int} (oa : natOkB xs = true) (ob : natOkB ys = true) : (limbs (nval xs + nval ys).toNat).length ≤ 1048576 := by
  have h1 := nval_b50 oa
  have h2 := nval_b50 ob
  have h3 := nval_ok oa
  have h4 := nval_ok ob
  have e : bp 51 = 1000000000 * bp 50 := rfl
  have h5 := bp_pos 50
  have h6 := limbs_length_le (nval xs + nval ys).toNat 51 (by rw [Int.toNat_of_nonneg (by omega)]; omega)
  omega
theorem dif_short {xs ys : List Int} (oa : natOkB xs = true) (ob : natOkB ys = true) (hle : nval ys ≤ nval xs) : (limbs (nval xs - nval ys).toNat).length ≤ 1048576 := by
  have h1 := nval_b50 oa
  have h4 := nval_ok ob
  have h6 := limbs_length_le (nval xs - nval ys).toNat 50 (by rw [Int.toNat_of_nonneg (by omega)]; omega)
  omega
theorem below_low {B C : Nat} {w w1 w2 : World} (h : Below B w w1) (k : Below C w1 w2) (hB : B ≤ C) : Below B w w2 :=
  ⟨k.os.trans h.os, k.tape.trans h.tape, k.output.trans h.output, Nat.le_trans h.size k.size, fun i hi => (k.block i (by omega)).trans (h.block i hi)⟩
set_option maxHeartbeats 4000000 in
set_option maxRecDepth 100000 in
theorem implIntAdd_any (vx vy : Value) (x y : SI) (w : World) (hlx : x.2.length ≤ 1048576) (hly : y.2.length ≤ 1048576) (hx : OwnS vx x w) (hy : OwnS vy y w) :
    Calls Tryz.prog 102 #[vx, vy] w (NewS (addS x y) w) := by
  obtain ⟨ux, rfl, hox⟩ := hx
  obtain ⟨uy, rfl, hoy⟩ := hy
  obtain ⟨Ax, cx, rfl⟩ := own_len hox
  obtain ⟨Ay, cy, rfl⟩ := own_len hoy
  obtain ⟨W0, hW0⟩ : ∃ W0, W0 = ((w.alloc (.cells #[.bool x.1, .slice Ax x.2.length cx] 28)).alloc (.cells #[.bool y.1, .slice Ay y.2.length cy] 28)).alloc (.cells #[.bool false, .slice none 0 0] 28) := ⟨_, rfl⟩
  have hbb : Below w.heap.size w W0 := by rw [hW0]; exact below_al (below_al (below_al (Below.refl _ _) _) _) _
  have h3 := alloc3 w (.cells #[.bool x.1, .slice Ax x.2.length cx] 28) (.cells #[.bool y.1, .slice Ay y.2.length cy] 28) (.cells #[.bool false, .slice none 0 0] 28)
  rw [← hW0] at h3
  have kx : At [w.heap.size] (BoxAt w.heap.size #[.bool x.1, .slice Ax x.2.length cx] 28) W0 := box_at h3.1
  have ky : At [w.heap.size + 1] (BoxAt (w.heap.size + 1) #[.bool y.1, .slice Ay y.2.length cy] 28) W0 := box_at h3.2.1
  have kr : At [w.heap.size + 1 + 1] (BoxAt (w.heap.size + 1 + 1) #[.bool false, .slice none 0 0] 28) W0 := box_at h3.2.2.1
  have ox := own_below hox hbb
  have oy := own_below hoy hbb
  have rdx := (OwnS.mk (x := x) (ownI_of ox)).rd
  have HW := Lib.hid hW0
  have cx0 := kx.here.cell 0 _ rfl
  have cx1 := kx.here.cell 1 _ rfl
  clear h3 hox hoy hW0
  by_cases okx : okS x = true
  · go_enter Tryz.func102, Tryz.ntmps102
    go_wp2_with fail
    rw [← HW.out]
    refine (implIntOk_any _ x _ hlx rdx).mono ?_
    rintro e w1 ⟨rfl, b1⟩
    rw [okx]
    have bb1 := Below.next hbb b1
    replace kx := kx.below b1
    replace ky := ky.below b1
    replace kr := kr.below b1
    replace ox := own_below ox b1
    replace oy := own_below oy b1
    have cy0 := ky.here.cell 0 _ rfl
    have cy1 := ky.here.cell 1 _ rfl
    clear rdx cx0 cx1
    go_wp2_with fail
    refine (implIntOk_any _ y w1 hly (OwnS.mk (x := y) (ownI_of oy)).rd).mono ?_
    rintro e w2 ⟨rfl, b2⟩
    have bb2 := Below.next bb1 b2
    replace kx := kx.below b2
    replace ky := ky.below b2
    replace kr := kr.below b2
    replace ox := own_below ox b2
    replace oy := own_below oy b2
    clear cy0 cy1
    by_cases oky : okS y = true
    · rw [oky]
      have HZ := Lib.hid (addS_ok okx oky).symm
      have OKX := Lib.hid okx
      have OKY := Lib.hid oky
      have px := okS_parts okx
      have py := okS_parts oky
      have Nx := Lib.hid px.1
      have Ny := Lib.hid py.1
      have Dx := Lib.hid (natOk_parts px.1)
      have Dy := Lib.hid (natOk_parts py.1)
      have hlx5 := Dx.out.2.1
      have hly5 := Dy.out.2.1
      have cx0 := kx.here.cell 0 _ rfl
      have cx1 := kx.here.cell 1 _ rfl
      have cy0 := ky.here.cell 0 _ rfl
      have cy1 := ky.here.cell 1 _ rfl
      have rx := (ownI_of ox).row
      have ry := (ownI_of oy).row
      have hlt2 : w.heap.size + 1 + 1 < w2.heap.size := kr.lt _ (by simp)
      clear okx oky px py b1 b2
      go_upto_region 3 with fail
      go_wp2_with fail
      refine (compareLimbs_any _ _ x.2 y.2 0 _ 0 _ w2 (by omega) (by omega) ⟨Dx.out.1, Dx.out.2.2⟩ ⟨Dy.out.1, Dy.out.2.2⟩ rx ry).mono ?_
      rintro e w' ⟨rfl, q, rfl⟩
      clear cx0 cx1 cy0 cy1
      obtain ⟨W3, hW3⟩ : ∃ W3, W3 = w2.drewN q := ⟨_, rfl⟩
      have b3 : Below w2.heap.size w2 W3 := by rw [hW3]; exact below_drewN (Below.refl _ _) q
      have bb3 := Below.next bb2 b3
      have hlt3 : w.heap.size + 1 + 1 < W3.heap.size := by rw [hW3]; exact hlt2
      replace kx := kx.below b3
      replace ky := ky.below b3
      replace kr := kr.below b3
      replace ox := own_below ox b3
      replace oy := own_below oy b3
      rw [← hW3]
      clear rx ry b3 hW3 bb1 bb2 hlt2
      by_cases hle : nval y.2 ≤ nval x.2
      · have hz : 0 ≤ cmpI (nval x.2) (nval y.2) := by unfold cmpI; split <;> (try split) <;> omega
        have HLE := Lib.hid hle
        have OKP := OKX
        have OKQ := OKY
        have NP := Nx
        have NQ := Ny
        generalize cmpI (nval x.2) (nval y.2) = z at *
        have hzb : decide (z < 0) = false := decide_eq_false (by omega)
        clear hz hle
        obtain ⟨kP, kQ, oP, oQ⟩ : _ ∧ _ ∧ _ ∧ _ := ⟨kx, ky, ox, oy⟩
        clear kx ky ox oy
        -- P: the greater magnitude
        have rdP := (OwnS.mk (x := x) (ownI_of oP)).rd
        have cp0 := kP.here.cell 0 _ rfl
        have cp1 := kP.here.cell 1 _ rfl
        go_wp2_with fail
        refine (copyInt_any _ x W3 (by omega) rdP).mono ?_
        rintro e w4 ⟨b, rfl, hnx, b4⟩
        have bb4 := Below.next bb3 b4
        have hrQ : Row w4 0 W3.heap.size (.slice Ay y.2.length cy) (intsV y.2) := (ownI_of oQ).row.below b4 (Nat.le_refl _)
        replace kP := kP.below b4
        replace kQ := kQ.below b4
        replace kr := kr.below b4
        clear cp0 cp1 rdP oP oQ
        have cp0 := kP.here.cell 0 _ rfl
        have cq0 := kQ.here.cell 0 _ rfl
        have cq1 := kQ.here.cell 1 _ rfl
        have HKQ := Lib.hid kQ
        have HKR := Lib.hid kr
        have HNX := Lib.hid hnx
        have HRQ := Lib.hid hrQ
        have hsz3 : w.heap.size + 1 + 1 < W3.heap.size := hlt3
        clear kP kQ kr hnx hrQ
        by_cases hs : x.1 = y.1
        · have hsb : (x.1 == y.1) = true := by rw [hs]; simp
          have HV := Lib.hid ((add_mk OKP.out OKQ.out hs).trans HZ.out)
          clear hs HZ
          go_upto_region 9 with fail
          go_cut [] (fun wx => Hid (NatX (intK x.1) W3.heap.size b (limbs (nval x.2 + nval y.2).toNat) wx) ∧ Below W3.heap.size w4 wx)
          case first =>
            go_wp2_with fail
            go_region_with (go_at_call 170; refine (natAdd_any W3.heap.size b x.2 _ y.2 0 W3.heap.size _ NP.out NQ.out (Nat.le_refl _) HRQ.out.drew1 HNX.out.drew1).mono ?_; rintro e w5 ⟨rfl, hp5⟩; have H5 := Lib.hid hp5; clear hp5)
            all_goals
              go_wp2_with fail
              go_meet
              exact ⟨Lib.hid H5.out.1, (Below.drew1 (Below.refl _ _)).trans H5.out.2⟩
          rename World => w6
          obtain ⟨HX, b6⟩ := hcut
          have bb6 := below_low bb4 b6 (by omega)
          have kr6 := HKR.out.belowB b6 (fun g hg => by simp at hg; omega)
          clear cp0 cq0 cq1
          go_wp2_with fail
          refine (signed_any _ _ b _ _ (sum_short NP.out NQ.out) HX.out).mono ?_
          rw [HV.out]
          rintro e w7 ⟨u7, rfl, o7, b7⟩
          generalize addS x y = z7 at *
          obtain ⟨A7, c7, rfl⟩ := own_len o7
          have bb7 := Below.next bb6 b7
          have kr7 := kr6.below b7
          have cz0 := kr7.here.cell 0 _ rfl
          have cz1 := kr7.here.cell 1 _ rfl
          have fz0 := Lib.frozen_of_heap kr7.here 0
          have fz1 := Lib.frozen_of_heap kr7.here 1
          have HO := Lib.hid o7
          have HK := Lib.hid kr7
          clear o7 kr6 kr7 HX HV
          go_wp2
          refine bodyPost_ret (v := .agg #[.bool _, .slice A7 _ c7]) (by simp [results, Tryz.results102, go_sem, cz0, cz1]; exact ⟨rfl, rfl⟩) rfl ?_
          exact newS_ret HK.out.here HO.out (by omega) (by omega) bb7
        · have hsb : (x.1 == y.1) = false := by rw [beq_eq_false_iff_ne]; exact hs
          have HV := Lib.hid ((sub_mk OKP.out OKQ.out hs HLE.out).trans HZ.out)
          clear hs HZ
          go_upto_region 9 with fail
          go_cut [] (fun wx => Hid (NatX (intK x.1) W3.heap.size b (limbs (nval x.2 - nval y.2).toNat) wx) ∧ Below W3.heap.size w4 wx)
          case first =>
            go_wp2_with fail
            go_region_with (go_at_call 171; refine (natTake_any W3.heap.size b x.2 _ y.2 0 W3.heap.size _ (by omega) (lens_of_le NP.out NQ.out HLE.out) (natOk_parts NP.out).1 (natOk_parts NQ.out).1 HLE.out (Nat.le_refl _) HRQ.out.drew1 HNX.out.drew1).mono ?_; rintro e w5 ⟨rfl, hp5⟩; have H5 := Lib.hid hp5; clear hp5)
            all_goals
              go_wp2_with fail
              go_meet
              exact ⟨Lib.hid H5.out.1, (Below.drew1 (Below.refl _ _)).trans H5.out.2⟩
          rename World => w6
          obtain ⟨HX, b6⟩ := hcut
          have bb6 := below_low bb4 b6 (by omega)
          have kr6 := HKR.out.belowB b6 (fun g hg => by simp at hg; omega)
          clear cp0 cq0 cq1
          go_wp2_with fail
          refine (signed_any _ _ b _ _ (dif_short NP.out NQ.out HLE.out) HX.out).mono ?_
          rw [HV.out]
          rintro e w7 ⟨u7, rfl, o7, b7⟩
          generalize addS x y = z7 at *
          obtain ⟨A7, c7, rfl⟩ := own_len o7
          have bb7 := Below.next bb6 b7
          have kr7 := kr6.below b7
          have cz0 := kr7.here.cell 0 _ rfl
          have cz1 := kr7.here.cell 1 _ rfl
          have fz0 := Lib.frozen_of_heap kr7.here 0
          have fz1 := Lib.frozen_of_heap kr7.here 1
          have HO := Lib.hid o7
          have HK := Lib.hid kr7
          clear o7 kr6 kr7 HX HV
          go_wp2
          refine bodyPost_ret (v := .agg #[.bool _, .slice A7 _ c7]) (by simp [results, Tryz.results102, go_sem, cz0, cz1]; exact ⟨rfl, rfl⟩) rfl ?_
          exact newS_ret HK.out.here HO.out (by omega) (by omega) bb7
      · have hz : cmpI (nval x.2) (nval y.2) < 0 := by unfold cmpI; rw [if_pos (by omega)]; omega
        have hle2 : nval x.2 ≤ nval y.2 := by omega
        have HLE := Lib.hid hle2
        have OKP := OKY
        have OKQ := OKX
        have NP := Ny
        have NQ := Nx
        replace HZ : Hid (ofZ (valS y + valS x) = addS x y) := Lib.hid (by rw [Int.add_comm]; exact HZ.out)
        generalize cmpI (nval x.2) (nval y.2) = z at *
        have hzb : decide (z < 0) = true := decide_eq_true hz
        clear hz hle hle2
        have cx0 := kx.here.cell 0 _ rfl
        have cx1 := kx.here.cell 1 _ rfl
        have cy0 := ky.here.cell 0 _ rfl
        have cy1 := ky.here.cell 1 _ rfl
        have fx0 := Lib.frozen_of_heap kx.here 0
        have fx1 := Lib.frozen_of_heap kx.here 1
        have fy0 := Lib.frozen_of_heap ky.here 0
        have fy1 := Lib.frozen_of_heap ky.here 1
        have HKX := Lib.hid kx
        have HKY := Lib.hid ky
        clear kx ky
        go_upto_region 5 with fail
        obtain ⟨V3, hV3⟩ : ∃ V3, V3 = (((W3.setCell ⟨w.heap.size, 0, none⟩ (.bool y.1)).setCell ⟨w.heap.size, 1, none⟩ (.slice Ay y.2.length cy)).setCell ⟨w.heap.size + 1, 0, none⟩ (.bool x.1)).setCell ⟨w.heap.size + 1, 1, none⟩ (.slice Ax x.2.length cx) := ⟨_, rfl⟩
        rw [← hV3]
        have hsame : ∀ i, i ≠ w.heap.size → i ≠ w.heap.size + 1 → V3.heap[i]? = W3.heap[i]? := fun i h1 h2 => by
          rw [hV3, Below.heap_setCell _ _ _ _ h2, Below.heap_setCell _ _ _ _ h2, Below.heap_setCell _ _ _ _ h1, Below.heap_setCell _ _ _ _ h1]
        have hsize : V3.heap.size = W3.heap.size := by rw [hV3]; simp [World.setCell]
        have hnx0 := Lib.ownBlock_ne ox HKX.out.here (by decide)
        have hnx1 := Lib.ownBlock_ne ox HKY.out.here (by decide)
        have hny0 := Lib.ownBlock_ne oy HKX.out.here (by decide)
        have hny1 := Lib.ownBlock_ne oy HKY.out.here (by decide)
        have oP : V3.ownsRow 0 3 1 (.slice Ay y.2.length cy) y.2.length (intsV y.2) := own_stays (own_zero oy) fun i hi => hsame i (fun e => hny0 (by rw [hi, e])) (fun e => hny1 (by rw [hi, e]))
        have oQ : V3.ownsRow 0 3 1 (.slice Ax x.2.length cx) x.2.length (intsV x.2) := own_stays (own_zero ox) fun i hi => hsame i (fun e => hnx0 (by rw [hi, e])) (fun e => hnx1 (by rw [hi, e]))
        have kP : At [w.heap.size] (BoxAt w.heap.size #[.bool y.1, .slice Ay y.2.length cy] 28) V3 := box_at (by
          show V3.heap[w.heap.size]? = _
          rw [hV3, Below.heap_setCell _ _ _ _ (by simp), Below.heap_setCell _ _ _ _ (by simp)]
          exact swap_box HKX.out.here)
        have kQ : At [w.heap.size + 1] (BoxAt (w.heap.size + 1) #[.bool x.1, .slice Ax x.2.length cx] 28) V3 := box_at (by
          rw [hV3]
          refine swap_box (c0 := .bool y.1) (c1 := .slice Ay y.2.length cy) ?_
          show (World.heap _)[w.heap.size + 1]? = _
          rw [Below.heap_setCell _ _ _ _ (by simp), Below.heap_setCell _ _ _ _ (by simp)]
          exact HKY.out.here)
        replace kr : At [w.heap.size + 1 + 1] (BoxAt (w.heap.size + 1 + 1) #[.bool false, .slice none 0 0] 28) V3 := kr.move (fun g hg => by simp at hg; subst hg; exact hsame _ (by omega) (by omega)) (by omega)
        replace bb3 : Below w.heap.size w V3 := by rw [hV3]; exact below_set2 (below_set2 bb3 (Nat.le_refl _)) (by omega)
        replace hlt3 : w.heap.size + 1 + 1 < V3.heap.size := by omega
        clear hV3 hsame hsize hnx0 hnx1 hny0 hny1 ox oy cx0 cx1 cy0 cy1 fx0 fx1 fy0 fy1 HKX HKY
        -- P: the greater magnitude
        have rdP := (OwnS.mk (x := y) (ownI_of oP)).rd
        have cp0 := kP.here.cell 0 _ rfl
        have cp1 := kP.here.cell 1 _ rfl
        go_wp2_with fail
        refine (copyInt_any _ y V3 (by omega) rdP).mono ?_
        rintro e w4 ⟨b, rfl, hnx, b4⟩
        have bb4 := Below.next bb3 b4
        have hrQ : Row w4 0 V3.heap.size (.slice Ax x.2.length cx) (intsV x.2) := (ownI_of oQ).row.below b4 (Nat.le_refl _)
        replace kP := kP.below b4
        replace kQ := kQ.below b4
        replace kr := kr.below b4
        clear cp0 cp1 rdP oP oQ
        have cp0 := kP.here.cell 0 _ rfl
        have cq0 := kQ.here.cell 0 _ rfl
        have cq1 := kQ.here.cell 1 _ rfl
        have HKQ := Lib.hid kQ
        have HKR := Lib.hid kr
        have HNX := Lib.hid hnx
        have HRQ := Lib.hid hrQ
        have hsz3 : w.heap.size + 1 + 1 < V3.heap.size := hlt3
        clear kP kQ kr hnx hrQ
        by_cases hs : y.1 = x.1
        · have hsb : (y.1 == x.1) = true := by rw [hs]; simp
          have HV := Lib.hid ((add_mk OKP.out OKQ.out hs).trans HZ.out)
          clear hs HZ
          go_upto_region 9 with fail
          go_cut [] (fun wx => Hid (NatX (intK y.1) V3.heap.size b (limbs (nval y.2 + nval x.2).toNat) wx) ∧ Below V3.heap.size w4 wx)
          case first =>
            go_wp2_with fail
            go_region_with (go_at_call 170; refine (natAdd_any V3.heap.size b y.2 _ x.2 0 V3.heap.size _ NP.out NQ.out (Nat.le_refl _) HRQ.out.drew1 HNX.out.drew1).mono ?_; rintro e w5 ⟨rfl, hp5⟩; have H5 := Lib.hid hp5; clear hp5)
            all_goals
              go_wp2_with fail
              go_meet
              exact ⟨Lib.hid H5.out.1, (Below.drew1 (Below.refl _ _)).trans H5.out.2⟩
          rename World => w6
          obtain ⟨HX, b6⟩ := hcut
          have bb6 := below_low bb4 b6 (by omega)
          have kr6 := HKR.out.belowB b6 (fun g hg => by simp at hg; omega)
          clear cp0 cq0 cq1
          go_wp2_with fail
          refine (signed_any _ _ b _ _ (sum_short NP.out NQ.out) HX.out).mono ?_
          rw [HV.out]
          rintro e w7 ⟨u7, rfl, o7, b7⟩
          generalize addS x y = z7 at *
          obtain ⟨A7, c7, rfl⟩ := own_len o7
          have bb7 := Below.next bb6 b7
          have kr7 := kr6.below b7
          have cz0 := kr7.here.cell 0 _ rfl
          have cz1 := kr7.here.cell 1 _ rfl
          have fz0 := Lib.frozen_of_heap kr7.here 0
          have fz1 := Lib.frozen_of_heap kr7.here 1
          have HO := Lib.hid o7
          have HK := Lib.hid kr7
          clear o7 kr6 kr7 HX HV
          go_wp2
          refine bodyPost_ret (v := .agg #[.bool _, .slice A7 _ c7]) (by simp [results, Tryz.results102, go_sem, cz0, cz1]; exact ⟨rfl, rfl⟩) rfl ?_
          exact newS_ret HK.out.here HO.out (by omega) (by omega) bb7
        · have hsb : (y.1 == x.1) = false := by rw [beq_eq_false_iff_ne]; exact hs
          have HV := Lib.hid ((sub_mk OKP.out OKQ.out hs HLE.out).trans HZ.out)
          clear hs HZ
          go_upto_region 9 with fail
          go_cut [] (fun wx => Hid (NatX (intK y.1) V3.heap.size b (limbs (nval y.2 - nval x.2).toNat) wx) ∧ Below V3.heap.size w4 wx)
          case first =>
            go_wp2_with fail
            go_region_with (go_at_call 171; refine (natTake_any V3.heap.size b y.2 _ x.2 0 V3.heap.size _ (by omega) (lens_of_le NP.out NQ.out HLE.out) (natOk_parts NP.out).1 (natOk_parts NQ.out).1 HLE.out (Nat.le_refl _) HRQ.out.drew1 HNX.out.drew1).mono ?_; rintro e w5 ⟨rfl, hp5⟩; have H5 := Lib.hid hp5; clear hp5)
            all_goals
              go_wp2_with fail
              go_meet
              exact ⟨Lib.hid H5.out.1, (Below.drew1 (Below.refl _ _)).trans H5.out.2⟩
          rename World => w6
          obtain ⟨HX, b6⟩ := hcut
          have bb6 := below_low bb4 b6 (by omega)
          have kr6 := HKR.out.belowB b6 (fun g hg => by simp at hg; omega)
          clear cp0 cq0 cq1
          go_wp2_with fail
          refine (signed_any _ _ b _ _ (dif_short NP.out NQ.out HLE.out) HX.out).mono ?_
          rw [HV.out]
          rintro e w7 ⟨u7, rfl, o7, b7⟩
          generalize addS x y = z7 at *
          obtain ⟨A7, c7, rfl⟩ := own_len o7
          have bb7 := Below.next bb6 b7
          have kr7 := kr6.below b7
          have cz0 := kr7.here.cell 0 _ rfl
          have cz1 := kr7.here.cell 1 _ rfl
          have fz0 := Lib.frozen_of_heap kr7.here 0
          have fz1 := Lib.frozen_of_heap kr7.here 1
          have HO := Lib.hid o7
          have HK := Lib.hid kr7
          clear o7 kr6 kr7 HX HV
          go_wp2
          refine bodyPost_ret (v := .agg #[.bool _, .slice A7 _ c7]) (by simp [results, Tryz.results102, go_sem, cz0, cz1]; exact ⟨rfl, rfl⟩) rfl ?_
          exact newS_ret HK.out.here HO.out (by omega) (by omega) bb7
    · have oky' : okS y = false := by simpa using oky
      have HV := Lib.hid (show addS x y = zeroS by unfold addS; rw [if_neg (fun h => oky h.2)])
      rw [oky']
      have cz0 := kr.here.cell 0 _ rfl
      have cz1 := kr.here.cell 1 _ rfl
      have fz0 := Lib.frozen_of_heap kr.here 0
      have fz1 := Lib.frozen_of_heap kr.here 1
      clear oky kx ky kr ox oy
      go_wp2
      refine bodyPost_ret (v := .agg #[.bool false, .slice none 0 0]) (by simp [results, Tryz.results102, go_sem, cz0, cz1]) rfl ?_
      rw [HV.out]
      exact newS_zero (below_set2 bb2 (by omega))
  · have okx' : okS x = false := by simpa using okx
    have HV := Lib.hid (show addS x y = zeroS by unfold addS; rw [if_neg (fun h => okx h.1)])
    clear okx
    go_enter Tryz.func102, Tryz.ntmps102
    go_wp2_with fail
    rw [← HW.out]
    refine (implIntOk_any _ x _ hlx rdx).mono ?_
    rintro e w1 ⟨rfl, b1⟩
    rw [okx']
    have bb1 := Below.next hbb b1
    replace kr := kr.below b1
    have cz0 := kr.here.cell 0 _ rfl
    have cz1 := kr.here.cell 1 _ rfl
    have fz0 := Lib.frozen_of_heap kr.here 0
    have fz1 := Lib.frozen_of_heap kr.here 1
    clear kx ky kr rdx ox oy cx0 cx1
    go_wp2
    refine bodyPost_ret (v := .agg #[.bool false, .slice none 0 0]) (by simp [results, Tryz.results102, go_sem, cz0, cz1]) rfl ?_
    rw [HV.out]
    exact newS_zero (below_set2 bb1 (by omega))
theorem negS_len (x : SI) : (negS x).2.length ≤ 1048576 := by
  have := (natOk_parts (okS_parts (negS_ok x)).1).2.1
  omega
theorem sub_add (x : SI) {y : SI} (oky : okS y = true) : subS x y = addS x (negS y) := by
  unfold subS addS
  by_cases okx : okS x = true
  · rw [if_pos ⟨okx, oky⟩, if_pos ⟨okx, negS_ok y⟩, negS_val oky]; rfl
  · rw [if_neg (fun h => okx h.1), if_neg (fun h => okx h.1)]
set_option maxHeartbeats 4000000 in
set_option maxRecDepth 100000 in
theorem implIntSub_any (vx vy : Value) (x y : SI) (w : World) (hlx : x.2.length ≤ 1048576) (hly : y.2.length ≤ 1048576) (hx : OwnS vx x w) (hy : OwnS vy y w) :
    Calls Tryz.prog 103 #[vx, vy] w (NewS (subS x y) w) := by
  obtain ⟨ux, rfl, hox⟩ := hx
  obtain ⟨uy, rfl, hoy⟩ := hy
  obtain ⟨Ax, cx, rfl⟩ := own_len hox
  obtain ⟨Ay, cy, rfl⟩ := own_len hoy
  obtain ⟨W0, hW0⟩ : ∃ W0, W0 = ((w.alloc (.cells #[.bool x.1, .slice Ax x.2.length cx] 28)).alloc (.cells #[.bool y.1, .slice Ay y.2.length cy] 28)).alloc (.cells #[.bool false, .slice none 0 0] 28) := ⟨_, rfl⟩
  have hbb : Below w.heap.size w W0 := by rw [hW0]; exact below_al (below_al (below_al (Below.refl _ _) _) _) _
  have h3 := alloc3 w (.cells #[.bool x.1, .slice Ax x.2.length cx] 28) (.cells #[.bool y.1, .slice Ay y.2.length cy] 28) (.cells #[.bool false, .slice none 0 0] 28)
  rw [← hW0] at h3
  have kx : At [w.heap.size] (BoxAt w.heap.size #[.bool x.1, .slice Ax x.2.length cx] 28) W0 := box_at h3.1
  have ky : At [w.heap.size + 1] (BoxAt (w.heap.size + 1) #[.bool y.1, .slice Ay y.2.length cy] 28) W0 := box_at h3.2.1
  have kr : At [w.heap.size + 1 + 1] (BoxAt (w.heap.size + 1 + 1) #[.bool false, .slice none 0 0] 28) W0 := box_at h3.2.2.1
  have atx := own_at hox
  have aty := own_at hoy
  have ltx := atx.lt
  have lty := aty.lt
  have OFx := Lib.hid (show ∀ W, Chg [w.heap.size + 1 + 1] W0 W → OwnI (.slice Ax x.2.length cx) x.2 W from fun W hc => ((atx.below hbb).chg hc (fun i hi hm => by have := ltx i hi; simp at hm; omega)).here)
  have OFy := Lib.hid (show ∀ W, Chg [w.heap.size + 1 + 1] W0 W → OwnI (.slice Ay y.2.length cy) y.2 W from fun W hc => ((aty.below hbb).chg hc (fun i hi hm => by have := lty i hi; simp at hm; omega)).here)
  have KL := Lib.hid (show ∀ W, Chg [w.heap.size + 1 + 1] W0 W → W.cell? ⟨w.heap.size, 0, none⟩ = some (.bool x.1) ∧ W.cell? ⟨w.heap.size, 1, none⟩ = some (.slice Ax x.2.length cx) ∧ W.cell? ⟨w.heap.size + 1, 0, none⟩ = some (.bool y.1) ∧ W.cell? ⟨w.heap.size + 1, 1, none⟩ = some (.slice Ay y.2.length cy) ∧ Hid (Chg [w.heap.size + 1 + 1] W0 W) from
    fun W hc => ⟨(kx.chg hc (fun i hi hm => by simp at hi hm; omega)).here.cell 0 _ rfl, (kx.chg hc (fun i hi hm => by simp at hi hm; omega)).here.cell 1 _ rfl, (ky.chg hc (fun i hi hm => by simp at hi hm; omega)).here.cell 0 _ rfl, (ky.chg hc (fun i hi hm => by simp at hi hm; omega)).here.cell 1 _ rfl, Lib.hid hc⟩)
  have HW := Lib.hid hW0
  have RDy := Lib.hid (show ∀ W, Below W0.heap.size W0 W → RdS W (.agg #[.bool y.1, .slice Ay y.2.length cy]) y from fun W hb => (OwnS.mk (x := y) (OFy.out W (Chg.of_below hb))).rd)
  have cx0 := kx.here.cell 0 _ rfl
  have cx1 := kx.here.cell 1 _ rfl
  have cy0 := ky.here.cell 0 _ rfl
  have cy1 := ky.here.cell 1 _ rfl
  have frz := Lib.frozen_of_heap kr.here
  clear h3 atx aty ltx lty hW0 hox hoy
  by_cases oky : okS y = true
  · have HV := Lib.hid (sub_add x oky)
    have hnl := negS_len y
    go_enter Tryz.func103, Tryz.ntmps103
    go_wp2_with fail
    rw [← HW.out]
    refine (implIntOk_any _ y W0 hly (RDy.out W0 (Below.refl _ _))).mono ?_
    rintro e w2 ⟨rfl, b02⟩
    rw [oky]
    have bb2 := Below.next hbb b02
    replace kx := kx.below b02
    replace ky := ky.below b02
    replace kr := kr.below b02
    clear cx0 cx1 cy0 cy1
    have cx0 := kx.here.cell 0 _ rfl
    have cx1 := kx.here.cell 1 _ rfl
    have cy0 := ky.here.cell 0 _ rfl
    have cy1 := ky.here.cell 1 _ rfl
    go_wp2_with fail
    have KF := Lib.hid (show ∀ W, Chg [w.heap.size + 1 + 1] w2 W → Chg [w.heap.size + 1 + 1] W0 W from fun W hc => (Chg.of_below b02).trans hc)
    clear cx0 cx1 cy0 cy1
    go_region_held3 (fun W => W.cell? ⟨w.heap.size, 0, none⟩ = some (.bool x.1) ∧ W.cell? ⟨w.heap.size, 1, none⟩ = some (.slice Ax x.2.length cx) ∧ W.cell? ⟨w.heap.size + 1, 0, none⟩ = some (.bool y.1) ∧ W.cell? ⟨w.heap.size + 1, 1, none⟩ = some (.slice Ay y.2.length cy) ∧ Hid (Chg [w.heap.size + 1 + 1] W0 W))
      ((refine KL.out _ ?_; (first | exact HC2.out | exact HC1.out | exact (Chg.setCell (Chg.setCell HC2.out (by simp) _) (by simp) _) | exact KF.out _ ⟨rfl, rfl, rfl, Nat.le_refl _, fun _ _ _ => rfl⟩ | fail)))
      (first
        | (go_at_call 172; (have hBB := (‹_ ∧ _ ∧ _ ∧ _ ∧ Hid (Chg [w.heap.size + 1 + 1] W0 _)›).2.2.2.2); (with_reducible refine (implIntNeg_any _ y _ hly (OwnS.mk (x := y) (OFy.out _ hBB.out))).mono ?_); rintro e w3' ⟨u3', rfl, o3', b3'⟩; have HC1 := Lib.hid (hBB.out.trans (Chg.of_below b3')); (have kr3 := At.behind kr b3' rfl); (have bb3' := Below.next (show Below w.heap.size w w2.drew from bb2.drew) b3'); obtain ⟨A3', c3', rfl⟩ := own_len o3'; clear hBB)
        | (go_at_call 102; (have hBB := (‹_ ∧ _ ∧ _ ∧ _ ∧ Hid (Chg [w.heap.size + 1 + 1] W0 _)›).2.2.2.2); (with_reducible refine (implIntAdd_any _ _ x (negS y) _ hlx hnl (OwnS.mk (x := x) (OFx.out _ hBB.out)) (OwnS.mk (x := negS y) (ownI_of o3'))).mono ?_); rintro e w3 ⟨u3, rfl, o3, b3⟩; have HC2 := Lib.hid (hBB.out.trans (Chg.of_below b3)); (have kr4 := kr3.below b3); (have bb3 := Below.next bb3' b3); (have cz0 := kr4.here.cell 0 _ rfl); (have cz1 := kr4.here.cell 1 _ rfl); (have fz0 := Lib.frozen_of_heap kr4.here 0); (have fz1 := Lib.frozen_of_heap kr4.here 1); obtain ⟨A3, c3, rfl⟩ := own_len o3; clear hBB))
    have HO := Lib.hid o3
    have HBB := Lib.hid bb3
    have HK := Lib.hid kr4
    have HZ := Lib.hid bb3'.size
    clear o3 bb3 kr kr3 kr4 kx ky o3' b3' b3
    go_wp2
    refine bodyPost_ret (v := .agg #[.bool _, .slice A3 _ c3]) (by simp [results, Tryz.results103, go_sem, cz0, cz1]; exact ⟨rfl, rfl⟩) rfl ?_
    rw [HV.out]
    exact newS_ret HK.out.here HO.out HZ.out (by omega) HBB.out
  · have oky2 : okS y = false := by simpa using oky
    have HV := Lib.hid (show subS x y = zeroS by unfold subS; rw [if_neg (fun h => oky h.2)])
    clear oky
    go_enter Tryz.func103, Tryz.ntmps103
    go_wp2_with fail
    rw [← HW.out]
    refine (implIntOk_any _ y W0 hly (RDy.out W0 (Below.refl _ _))).mono ?_
    rintro e w2 ⟨rfl, b2⟩
    rw [oky2]
    have bb2 := Below.next hbb b2
    replace kr := kr.below b2
    have cz0 := kr.here.cell 0 _ rfl
    have cz1 := kr.here.cell 1 _ rfl
    have fz0 := Lib.frozen_of_heap kr.here 0
    have fz1 := Lib.frozen_of_heap kr.here 1
    clear kx ky kr cx0 cx1 cy0 cy1
    go_wp2
    refine bodyPost_ret (v := .agg #[.bool false, .slice none 0 0]) (by simp [results, Tryz.results103, go_sem, cz0, cz1]) rfl ?_
    rw [HV.out]
    exact newS_zero (below_set2 bb2 (by omega))
end Go.Proofs.YthfkdofnoomhaaaGreatDoor

namespace Go.Proofs.YthfkdofnoomhaaaGreatDoor
open Go.RowKit


set_option maxHeartbeats 2000000 in
set_option maxRecDepth 100000 in
theorem implIntCmp_any (vx vy : Value) (x y : SI) (w : World) (hlx : x.2.length ≤ 1048576) (hly : y.2.length ≤ 1048576) (hx : OwnS vx x w) (hy : OwnS vy y w) :
    Calls Tryz.prog 53 #[vx, vy] w fun e w' => e = .returned (.int .i64 (cmpS x y)) ∧ Below w.heap.size w w' := by
  obtain ⟨ux, rfl, hox⟩ := hx
  obtain ⟨uy, rfl, hoy⟩ := hy
  obtain ⟨Ax, cx, rfl⟩ := own_len hox
  obtain ⟨Ay, cy, rfl⟩ := own_len hoy
  have hbb : Below w.heap.size w ((w.alloc (.cells #[.bool x.1, .slice Ax x.2.length cx] 28)).alloc (.cells #[.bool y.1, .slice Ay y.2.length cy] 28)) := below_al (below_al (Below.refl _ _) _) _
  have kx := (box_new w #[.bool x.1, .slice Ax x.2.length cx] 28).below (below_al (Below.refl _ _) (.cells #[.bool y.1, .slice Ay y.2.length cy] 28))
  have ky := box_new (w.alloc (.cells #[.bool x.1, .slice Ax x.2.length cx] 28)) #[.bool y.1, .slice Ay y.2.length cy] 28
  rw [show (w.alloc (.cells #[.bool x.1, .slice Ax x.2.length cx] 28)).heap.size = w.heap.size + 1 by simp] at ky
  have ox := own_below hox hbb
  have oy := own_below hoy hbb
  have rdx := (OwnS.mk (x := x) (ownI_of ox)).rd
  clear hox hoy
  by_cases okx : okS x = true
  · go_enter Tryz.func53, Tryz.ntmps53
    go_wp2_with fail
    refine (implIntOk_any _ x _ hlx rdx).mono ?_
    rintro e w1 ⟨rfl, b1⟩
    rw [okx]
    have bb1 := Below.next hbb b1
    replace kx := kx.below b1
    replace ky := ky.below b1
    replace ox := own_below ox b1
    replace oy := own_below oy b1
    have cy0 := ky.here.cell 0 _ rfl
    have cy1 := ky.here.cell 1 _ rfl
    clear rdx
    go_wp2_with fail
    refine (implIntOk_any _ y w1 hly (OwnS.mk (x := y) (ownI_of oy)).rd).mono ?_
    rintro e w2 ⟨rfl, b2⟩
    have bb2 := Below.next bb1 b2
    replace kx := kx.below b2
    replace ky := ky.below b2
    replace ox := own_below ox b2
    replace oy := own_below oy b2
    clear cy0 cy1
    by_cases oky : okS y = true
    · rw [oky]
      have HV := Lib.hid (show cmpS x y = cmpI (valS x) (valS y) by unfold cmpS; rw [if_pos ⟨okx, oky⟩])
      have px := okS_parts okx
      have py := okS_parts oky
      have h0x := nval_ok px.1
      have h0y := nval_ok py.1
      have Dx := Lib.hid (natOk_parts px.1)
      have Dy := Lib.hid (natOk_parts py.1)
      have cx0 := kx.here.cell 0 _ rfl
      have cx1 := kx.here.cell 1 _ rfl
      have cy0 := ky.here.cell 0 _ rfl
      have cy1 := ky.here.cell 1 _ rfl
      have hpx : x.1 = true → 0 < nval x.2 := fun h => okS_pos okx (px.2 h)
      have hpy : y.1 = true → 0 < nval y.2 := fun h => okS_pos oky (py.2 h)
      have HPX := Lib.hid hpx
      have HPY := Lib.hid hpy
      have rx := (ownI_of ox).row
      have ry := (ownI_of oy).row
      clear px py hpx hpy okx oky kx ky
      cases hx1 : x.1 <;> cases hy1 : y.1
      · rw [hx1] at cx0
        rw [hy1] at cy0
        have HC := Lib.hid (show cmpI (valS x) (valS y) = cmpI (nval x.2) (nval y.2) by unfold valS; rw [hx1, hy1]; rfl)
        clear hx1 hy1
        go_wp2_with fail
        refine (compareLimbs_any _ _ x.2 y.2 0 _ 0 _ w2 (by omega) (by omega) ⟨Dx.out.1, Dx.out.2.2⟩ ⟨Dy.out.1, Dy.out.2.2⟩ rx ry).mono ?_
        rintro e w' ⟨rfl, q, rfl⟩
        go_wp2
        go_ret
        exact ⟨ret_int (by rw [HV.out, HC.out]), below_drewN bb2 q⟩
      · rw [hx1] at cx0
        rw [hy1] at cy0
        have HC := Lib.hid (show cmpI (valS x) (valS y) = 1 by have := HPY.out hy1; unfold valS; rw [hx1, hy1]; simp; unfold cmpI; rw [if_neg (by omega), if_pos (by omega)])
        clear hx1 hy1
        go_wp2
        go_ret
        exact ⟨ret_int (by rw [HV.out, HC.out]), bb2⟩
      · rw [hx1] at cx0
        rw [hy1] at cy0
        have HC := Lib.hid (show cmpI (valS x) (valS y) = -1 by have := HPX.out hx1; unfold valS; rw [hx1, hy1]; simp; unfold cmpI; rw [if_pos (by omega)])
        clear hx1 hy1
        go_wp2
        go_ret
        exact ⟨ret_int (by rw [HV.out, HC.out]), bb2⟩
      · rw [hx1] at cx0
        rw [hy1] at cy0
        have HC := Lib.hid (show cmpI (valS x) (valS y) = cmpI (nval y.2) (nval x.2) by unfold valS; rw [hx1, hy1]; simp; unfold cmpI; split <;> split <;> (try split) <;> (try split) <;> omega)
        clear hx1 hy1
        go_wp2_with fail
        refine (compareLimbs_any _ _ y.2 x.2 0 _ 0 _ w2 (by omega) (by omega) ⟨Dy.out.1, Dy.out.2.2⟩ ⟨Dx.out.1, Dx.out.2.2⟩ ry rx).mono ?_
        rintro e w' ⟨rfl, q, rfl⟩
        go_wp2
        go_ret
        exact ⟨ret_int (by rw [HV.out, HC.out]), below_drewN bb2 q⟩
    · have oky' : okS y = false := by simpa using oky
      have HV := Lib.hid (show cmpS x y = 0 by unfold cmpS; rw [if_neg (fun h => oky h.2)])
      rw [oky']
      clear oky kx ky
      go_wp2
      go_ret
      exact ⟨ret_int HV.out.symm, bb2⟩
  · have okx' : okS x = false := by simpa using okx
    have HV := Lib.hid (show cmpS x y = 0 by unfold cmpS; rw [if_neg (fun h => okx h.1)])
    clear okx
    go_enter Tryz.func53, Tryz.ntmps53
    go_wp2_with fail
    refine (implIntOk_any _ x _ hlx rdx).mono ?_
    rintro e w1 ⟨rfl, b1⟩
    rw [okx']
    have bb1 := Below.next hbb b1
    clear kx ky rdx
    go_wp2
    go_ret
    exact ⟨ret_int HV.out.symm, bb1⟩

set_option maxHeartbeats 400000 in
set_option maxRecDepth 100000 in
theorem implIntSign_any (v : Value) (x : SI) (w : World) (hl : x.2.length ≤ 1048576) (h : OwnS v x w) :
    Calls Tryz.prog 87 #[v] w fun e w' => e = .returned (.int .i64 (cmpS x zeroS)) ∧ Below w.heap.size w w' := by
  obtain ⟨u, rfl, ho⟩ := h
  obtain ⟨A, c, rfl⟩ := own_len ho
  have hbb : Below w.heap.size w (w.alloc (.cells #[.bool x.1, .slice A x.2.length c] 28)) := below_al (Below.refl _ _) _
  have hoB := OwnS.mk (x := x) (ownI_of (own_below ho hbb))
  have hz : OwnS (.agg #[.bool false, .slice none 0 0]) zeroS (w.alloc (.cells #[.bool x.1, .slice A x.2.length c] 28)) := ⟨_, rfl, World.ownsRow_nil _ _ _ _⟩
  go_enter Tryz.func87, Tryz.ntmps87
  go_wp2_with fail
  refine (implIntCmp_any _ _ x zeroS _ hl (by decide) hoB hz).mono ?_
  rintro e w1 ⟨rfl, b1⟩
  go_wp2
  go_ret
  exact ⟨rfl, Below.next hbb b1⟩

end Go.Proofs.YthfkdofnoomhaaaGreatDoor

namespace Go.Proofs.YthfkdofnoomhaaaGreatDoor
open Go.RowKit

set_option maxHeartbeats 1000000 in
set_option maxRecDepth 100000 in
theorem implDecOk_any (vd : Value) (d : DI) (w : World) (hl : d.1.2.length ≤ 1048576) (hd : OwnD vd d w) :
    Calls Tryz.prog 94 #[vd] w (Postb (okD d) w) := by
  have Hd := Lib.hid hd
  obtain ⟨Ad, cd, rfl⟩ := ownD_form hd
  have ODd := Lib.hid (show ∀ W, Below w.heap.size w W → OwnD (.agg #[.bool d.1.1, .slice Ad d.1.2.length cd, .int .i64 d.2]) d W from fun W hb => OwnD.below Hd.out hb)
  have OId := Lib.hid (show ∀ W, Below w.heap.size w W → OwnI (.slice Ad d.1.2.length cd) d.1.2 W from fun W hb => ownD_open (ODd.out W hb))
  have OSd := Lib.hid (show ∀ W, Below w.heap.size w W → OwnS (.agg #[.bool d.1.1, .slice Ad d.1.2.length cd]) d.1 W from fun W hb => OwnS.mk (OId.out W hb))
  clear hd
  have bb0 : Below w.heap.size w (w.alloc (.cells #[.bool d.1.1, .slice Ad d.1.2.length cd, .int .i64 d.2] 30)) := below_al (Below.refl _ _) _
  have kd := (box_new w #[.bool d.1.1, .slice Ad d.1.2.length cd, .int .i64 d.2] 30)
  go_enter Tryz.func94, Tryz.ntmps94
  have kd_c0 := kd.here.cell 0 _ rfl
  have kd_c1 := kd.here.cell 1 _ rfl
  have kd_c2 := kd.here.cell 2 _ rfl
  go_wp2_with fail
  clear kd_c0 kd_c1 kd_c2
  refine (implIntOk_any _ d.1 _ hl (OwnS.rd (OSd.out _ bb0))).mono ?_
  rintro e w1 ⟨rfl, b1⟩
  have bb1 := Below.next bb0 b1
  replace kd := kd.below b1
  by_cases ok1 : okS d.1 = true
  · rw [ok1]
    have HO1 := Lib.hid ok1
    clear ok1
    by_cases hs : d.1.2.length ≤ 6
    · have HV0 := Lib.hid (show okD d = decide (0 ≤ d.2 ∧ d.2 ≤ 30) by unfold okD; rw [HO1.out, decide_eq_true hs]; rfl)
      have hs6 : (d.1.2.length : Int) ≤ 6 := by omega
      have hs7 : ¬ (6 : Int) < (d.1.2.length : Int) := by omega
      clear hs
      have kd_c0 := kd.here.cell 0 _ rfl
      have kd_c1 := kd.here.cell 1 _ rfl
      have kd_c2 := kd.here.cell 2 _ rfl
      by_cases h0 : 0 ≤ d.2
      · have h0n : ¬ d.2 < 0 := by omega
        have HV := Lib.hid (show okD d = decide (d.2 ≤ 30) by rw [HV0.out, decide_eq_decide]; exact ⟨fun h => h.2, fun h => ⟨h0, h⟩⟩)
        go_wp2
        go_ret
        exact ⟨ret_bool HV.out.symm, bb1⟩
      · have h0n : d.2 < 0 := by omega
        have HV := Lib.hid (show okD d = false by rw [HV0.out]; exact decide_eq_false (fun h => h0 h.1))
        go_wp2
        go_ret
        exact ⟨ret_bool HV.out.symm, bb1⟩
    · have HV := Lib.hid (show okD d = false by unfold okD; rw [decide_eq_false hs, Bool.false_and, Bool.and_false])
      have hs6 : ¬ (d.1.2.length : Int) ≤ 6 := by omega
      have hs7 : (6 : Int) < (d.1.2.length : Int) := by omega
      clear hs
      have kd_c0 := kd.here.cell 0 _ rfl
      have kd_c1 := kd.here.cell 1 _ rfl
      have kd_c2 := kd.here.cell 2 _ rfl
      go_wp2
      go_ret
      exact ⟨ret_bool HV.out.symm, bb1⟩
  · have ok1' : okS d.1 = false := by simpa using ok1
    have HV := Lib.hid (show okD d = false by unfold okD; rw [ok1']; rfl)
    rw [ok1']
    clear ok1 ok1'
    go_wp2
    go_ret
    exact ⟨ret_bool HV.out.symm, bb1⟩
set_option maxHeartbeats 1000000 in
set_option maxRecDepth 100000 in
theorem validDec_any (vx : Value) (x : SI) (k : Int) (S : List Nat) (w : World) (hl : x.2.length ≤ 1048576) (hx : At S (OwnS vx x) w) :
    Calls Tryz.prog 73 #[vx, .int .i64 k] w (KeptD S (decD x k).1 (decD x k).2 w) := by
  obtain ⟨Ax, cx, rfl⟩ := ownS_form hx.here
  have OX := Lib.hid (show ∀ W, Below w.heap.size w W → At S (OwnD (.agg #[.bool x.1, .slice Ax x.2.length cx, .int .i64 k]) (x, k)) W from fun W hb => (hx.below hb).imp fun _ h => OwnD.mk (q := (x, k)) (ownS_openD h))
  have HLT := Lib.hid hx.lt
  clear hx
  have bb0 : Below w.heap.size w ((w.alloc (.cells #[.bool x.1, .slice Ax x.2.length cx] 28)).alloc (.cells #[.bool false, .slice none 0 0, .int .i64 0] 30)) := below_al (below_al (Below.refl _ _) _) _
  have kx := (box_new w #[.bool x.1, .slice Ax x.2.length cx] 28).below (below_al (Below.refl _ _) (.cells #[.bool false, .slice none 0 0, .int .i64 0] 30))
  have ko := (box_new (w.alloc (.cells #[.bool x.1, .slice Ax x.2.length cx] 28)) #[.bool false, .slice none 0 0, .int .i64 0] 30)
  rw [show (w.alloc (.cells #[.bool x.1, .slice Ax x.2.length cx] 28)).heap.size = w.heap.size + 1 by simp] at ko
  go_enter Tryz.func73, Tryz.ntmps73
  have kx_c0 := kx.here.cell 0 _ rfl
  have kx_c1 := kx.here.cell 1 _ rfl
  have kd := box_new (((w.alloc (.cells #[.bool x.1, .slice Ax x.2.length cx] 28)).alloc (.cells #[.bool false, .slice none 0 0, .int .i64 0] 30))) #[.bool x.1, .slice Ax x.2.length cx, .int .i64 k] 30
  have ald := below_al (Below.refl (((w.alloc (.cells #[.bool x.1, .slice Ax x.2.length cx] 28)).alloc (.cells #[.bool false, .slice none 0 0, .int .i64 0] 30))).heap.size (((w.alloc (.cells #[.bool x.1, .slice Ax x.2.length cx] 28)).alloc (.cells #[.bool false, .slice none 0 0, .int .i64 0] 30)))) (.cells #[.bool x.1, .slice Ax x.2.length cx, .int .i64 k] 30)
  have bbd := Below.next bb0 ald
  replace kx := kx.below ald
  replace ko := ko.below ald
  rw [show ((w.alloc (.cells #[.bool x.1, .slice Ax x.2.length cx] 28)).alloc (.cells #[.bool false, .slice none 0 0, .int .i64 0] 30)).heap.size = w.heap.size + 1 + 1 by simp] at kd
  have kd_c0 := kd.here.cell 0 _ rfl
  have kd_c1 := kd.here.cell 1 _ rfl
  have kd_c2 := kd.here.cell 2 _ rfl
  go_wp2_with fail
  clear kx_c0 kx_c1 kd_c0 kd_c1 kd_c2
  refine (implDecOk_any _ (x, k) _ hl (OX.out _ bbd).here).mono ?_
  rintro e w1 ⟨rfl, b1⟩
  have bb1 := Below.next bbd b1
  replace kx := kx.below b1
  replace ko := ko.below b1
  replace kd := kd.below b1
  by_cases ok : okD (x, k) = true
  · rw [ok]
    have HV := Lib.hid (show decD x k = ((x, k), true) by unfold decD; rw [if_pos ok])
    clear ok kx
    have HW := Lib.hid (keptD_at (r := w.heap.size + 1) (b := true) (OX.out _ bb1) HLT.out (by omega) bb1)
    have kd_c0 := kd.here.cell 0 _ rfl
    have kd_c1 := kd.here.cell 1 _ rfl
    have kd_c2 := kd.here.cell 2 _ rfl
    have cz0 := ko.here.cell 0 _ rfl
    have fz0 := Lib.frozen_of_heap ko.here 0
    have cz1 := ko.here.cell 1 _ rfl
    have fz1 := Lib.frozen_of_heap ko.here 1
    have cz2 := ko.here.cell 2 _ rfl
    have fz2 := Lib.frozen_of_heap ko.here 2
    clear kd ko
    go_wp2
    refine bodyPost_ret (v := .tuple #[.agg #[.bool x.1, .slice Ax x.2.length cx, .int .i64 k], .bool true]) (by simp [results, Tryz.results73, go_sem, cz0, cz1, cz2]) rfl ?_
    rw [HV.out]
    exact HW.out
  · have ok' : okD (x, k) = false := by simpa using ok
    have HV := Lib.hid (show decD x k = (zeroD, false) by unfold decD; rw [if_neg ok])
    rw [ok']
    clear ok ok' kx kd
    have cz0 := ko.here.cell 0 _ rfl
    have fz0 := Lib.frozen_of_heap ko.here 0
    have cz1 := ko.here.cell 1 _ rfl
    have fz1 := Lib.frozen_of_heap ko.here 1
    have cz2 := ko.here.cell 2 _ rfl
    have fz2 := Lib.frozen_of_heap ko.here 2
    go_wp2
    refine bodyPost_ret (v := .tuple #[.agg #[.bool false, .slice none 0 0, .int .i64 0], .bool false]) (by simp [results, Tryz.results73, go_sem, cz0, cz1, cz2]) rfl ?_
    rw [HV.out]
    first | exact keptD_zero bb1 | exact keptD_zero (below_set3 bb1 (by omega))
set_option maxHeartbeats 1000000 in
set_option maxRecDepth 100000 in
theorem tenTo_any (k : Int) (w : World) : Calls Tryz.prog 76 #[.int .i64 k] w (NewV (fun u => OwnS u (tenS k)) w) := by
  have bb0 : Below w.heap.size w (w.alloc (.cells #[.bool false, .slice none 0 0] 28)) := below_al (Below.refl _ _) _
  have ko := (box_new w #[.bool false, .slice none 0 0] 28)
  have HKO := Lib.hid (ko.lt w.heap.size (by simp))
  go_enter Tryz.func76, Tryz.ntmps76
  go_wp2_with fail
  refine (implNatTen_any k _).mono ?_
  rintro e w1 ⟨v, rfl, o0, b1⟩
  obtain ⟨Af, cf, rfl⟩ := own_len o0
  have bb1 := Below.next bb0 b1
  replace ko := ko.below b1
  have of := (own_at' o0).imp (fun _ h => (OwnS.mk h : OwnS (.agg #[.bool (tenS k).1, .slice Af (tenN k).length cf]) (tenS k) _))
  have lf := own_within o0
  clear o0
  have HR := Lib.hid (newV_chg (φ := fun u => OwnS u (tenS k)) (v := .agg #[.bool false, .slice Af (tenN k).length cf]) (T := [w.heap.size]) of (fun i hi hm => by have := lf i hi; have := HKO.out; simp at hm; omega) (fun i hi => by simp at hi; omega) (fun i hi => by have := lf i hi; have := HKO.out; omega) bb1)
  have cz0 := ko.here.cell 0 _ rfl
  have fz0 := Lib.frozen_of_heap ko.here 0
  have cz1 := ko.here.cell 1 _ rfl
  have fz1 := Lib.frozen_of_heap ko.here 1
  clear of ko
  go_wp2
  refine bodyPost_ret (v := .agg #[.bool false, .slice Af (tenN k).length cf]) (by simp [results, Tryz.results76, go_sem, cz0, cz1]) rfl ?_
  refine HR.out _ ?_
  repeat (first | exact Chg.refl _ _ | refine Chg.setCell ?_ (by simp) _)
end Go.Proofs.YthfkdofnoomhaaaGreatDoor
