/-
  Chapter 5 of package impl: sums and differences.
  Plain facts on fractions: a signed numerator, the limbs of a denominator.
  Values of type impl.Rat: what laws.toRat, eqRat, markRat, heldRat and szRat return.
  Locals of struct types in their boxes, and the words that every kind of struct answers to: to, eq, sz, mark, held. Kind S: impl.Signed.
  The words that kind R, impl.Rat, answers to: to, eq, sz, mark, held.
  What NatGcd, NatTen, NatScale, NatCut and NatEven of package spec return.
  Chapter 5 of package spec: IntNum, IntCmp, IntSign.
  Chapter 6 of package spec: what its functions on fractions return (begun: l05Gcd).
  What RatOk of package spec returns.
  What l05Low of package spec returns: a fraction in lowest terms.
  Plain facts on the parts of fractions: how long products and sums of theirs are.
  What a law draws: a coin, a signed number of at most two limbs.
  Plain facts of chapter 7: the modes and their names.
  Plain facts of chapter 7: rounded fractions.
  Comparing: a number with itself, and two numbers turned round.
  Plain facts behind the laws of fractions: fractions of few limbs, reckoned as rational numbers.
  Decimal numbers as data, and what the functions of chapter 8 make of them (those that reckon without fractions).
  Decimal numbers as fractions: DecRat, RatDec, DecDiv.
-/
import Derived.Deep.DeepCutAuto
import Derived.Test.YtbfolegllhpkjaaGreatDoorJF2
namespace Go.Proofs.YtbfolegllhpkjaaGreatDoor
open Go.RowKit

theorem At.belowB {S : List Nat} {φ : World → Prop} {w w' : World} {B : Nat} (h : At S φ w) (hb : Below B w w') (hS : ∀ g ∈ S, g < B) : At S φ w' := h.move (fun g hg => hb.block g (hS g hg)) hb.size
theorem add_mk {P Q : SI} (okp : okS P = true) (okq : okS Q = true) (hs : P.1 = Q.1) : mkS P.1 (limbs (nval P.2 + nval Q.2).toNat) = ofZ (valS P + valS Q) := by
  have h0p := nval_ok (okS_parts okp).1
  have h0q := nval_ok (okS_parts okq).1
  rw [mkS_limbs]
  congr 1
  unfold valS
  rw [← hs]
  split <;> omega
theorem sub_mk {P Q : SI} (okp : okS P = true) (okq : okS Q = true) (hs : ¬ P.1 = Q.1) (hle : nval Q.2 ≤ nval P.2) : mkS P.1 (limbs (nval P.2 - nval Q.2).toNat) = ofZ (valS P + valS Q) := by
  have h0p := nval_ok (okS_parts okp).1
  have h0q := nval_ok (okS_parts okq).1
  rw [mkS_limbs]
  congr 1
  unfold valS
  cases hp : P.1 <;> cases hq : Q.1 <;> simp_all <;> omega
theorem addS_ok {x y : SI} (okx : okS x = true) (oky : okS y = true) : addS x y = ofZ (valS x + valS y) := by unfold addS; rw [if_pos ⟨okx, oky⟩]
theorem swap_box {g : Nat} {a b : Value} {c0 c1 : Value} {W : World} (h : BoxAt g #[c0, c1] 25 W) : BoxAt g #[a, b] 25 ((W.setCell ⟨g, 0, none⟩ a).setCell ⟨g, 1, none⟩ b) := by
  have h' : W.heap[g]? = some (.cells #[c0, c1] 25 (0, 0)) := h
  simp [BoxAt, World.setCell, Array.getElem?_modify, h']

theorem NatX.drew1 {K : NatK} {B b : Nat} {xs : List Int} {w : World} (h : NatX K B b xs w) : NatX K B b xs w.drew := h
theorem Row.drew1 {w : World} {lo hi : Nat} {v : Value} {xs : List Value} (h : Row w lo hi v xs) : Row w.drew lo hi v xs := h
theorem natAdd_any {K : NatK} (B b : Nat) (xs : List Int) (vy : Value) (ys : List Int) (lo hi : Nat) (w : World) (oa : natOkB xs = true) (ob : natOkB ys = true) (hhi : hi ≤ B) (hr : Row w lo hi vy (intsV ys)) (h : NatX K B b xs w) :
    Calls Tryz.prog 77 #[.pointer (some ⟨b, 0, none⟩), vy, .int .i64 1, .int .i64 0] w fun e w' => e = .returned (.tuple #[]) ∧ LeftX K B b (limbs (nval xs + nval ys).toNat) w w' := by
  have pa := natOk_parts oa
  have pb := natOk_parts ob
  refine (addTimes_any B b xs vy ys lo hi 1 0 w (by omega) (by omega) (by omega) (by omega) (by omega) pa.1 pb.1 hhi hr h).mono ?_
  rintro e w' ⟨rfl, zs, hl, hd, hv, hlen⟩
  rw [← add_limbs oa ob hd hv hlen]
  exact ⟨rfl, hl⟩
theorem nval_b50 {xs : List Int} (h : natOkB xs = true) : nval xs < bp 50 := by
  have p := natOk_parts h
  have h1 := nval_lt xs p.1
  have h2 := bp_mono p.2.1
  omega
theorem sum_short {xs ys : List Int} (oa : natOkB xs = true) (ob : natOkB ys = true) : (limbs (nval xs + nval ys).toNat).length ≤ 1048576 := by
  have h1 := nval_b50 oa
  have h2 := nval_b50 ob
  have h3 := nval_ok oa
  have h4 := nval_ok ob
  have e : bp 51 = 1000000000 * bp 50 := rfl
  have h5 := bp_pos 50
  have h6 := limbs_length_le (nval xs + nval ys).toNat 51 (by rw [Int.toNat_of_nonneg (by omega)]; omega)
  omega
theorem dif_short {xs ys : List Int} (oa : natOkB xs = true) (ob : natOkB ys = true) (hle : nval ys ≤ nval xs) : (limbs (nval xs - nval ys).toNat).length ≤ 1048576 := by
  have h1 := nval_b50 oa
  have h4 := nval_ok ob
  have h6 := limbs_length_le (nval xs - nval ys).toNat 50 (by rw [Int.toNat_of_nonneg (by omega)]; omega)
  omega
theorem below_low {B C : Nat} {w w1 w2 : World} (h : Below B w w1) (k : Below C w1 w2) (hB : B ≤ C) : Below B w w2 :=
  ⟨k.os.trans h.os, k.tape.trans h.tape, k.output.trans h.output, Nat.le_trans h.size k.size, fun i hi => (k.block i (by omega)).trans (h.block i hi)⟩
set_option maxHeartbeats 4000000 in
set_option maxRecDepth 100000 in
theorem implIntAdd_any (vx vy : Value) (x y : SI) (w : World) (hlx : x.2.length ≤ 1048576) (hly : y.2.length ≤ 1048576) (hx : OwnS vx x w) (hy : OwnS vy y w) :
    Calls Tryz.prog 37 #[vx, vy] w (NewS (addS x y) w) := by
  obtain ⟨ux, rfl, hox⟩ := hx
  obtain ⟨uy, rfl, hoy⟩ := hy
  obtain ⟨Ax, cx, rfl⟩ := own_len hox
  obtain ⟨Ay, cy, rfl⟩ := own_len hoy
  obtain ⟨W0, hW0⟩ : ∃ W0, W0 = ((w.alloc (.cells #[.bool x.1, .slice Ax x.2.length cx] 25)).alloc (.cells #[.bool y.1, .slice Ay y.2.length cy] 25)).alloc (.cells #[.bool false, .slice none 0 0] 25) := ⟨_, rfl⟩
  have hbb : Below w.heap.size w W0 := by rw [hW0]; exact below_al (below_al (below_al (Below.refl _ _) _) _) _
  have h3 := alloc3 w (.cells #[.bool x.1, .slice Ax x.2.length cx] 25) (.cells #[.bool y.1, .slice Ay y.2.length cy] 25) (.cells #[.bool false, .slice none 0 0] 25)
  rw [← hW0] at h3
  have kx : At [w.heap.size] (BoxAt w.heap.size #[.bool x.1, .slice Ax x.2.length cx] 25) W0 := box_at h3.1
  have ky : At [w.heap.size + 1] (BoxAt (w.heap.size + 1) #[.bool y.1, .slice Ay y.2.length cy] 25) W0 := box_at h3.2.1
  have kr : At [w.heap.size + 1 + 1] (BoxAt (w.heap.size + 1 + 1) #[.bool false, .slice none 0 0] 25) W0 := box_at h3.2.2.1
  have ox := own_below hox hbb
  have oy := own_below hoy hbb
  have rdx := (OwnS.mk (x := x) (ownI_of ox)).rd
  have HW := Lib.hid hW0
  have cx0 := kx.here.cell 0 _ rfl
  have cx1 := kx.here.cell 1 _ rfl
  clear h3 hox hoy hW0
  by_cases okx : okS x = true
  · go_enter Tryz.func37, Tryz.ntmps37
    go_wp2_with fail
    rw [← HW.out]
    refine (implIntOk_any _ x _ hlx rdx).mono ?_
    rintro e w1 ⟨rfl, b1⟩
    rw [okx]
    have bb1 := Below.next hbb b1
    replace kx := kx.below b1
    replace ky := ky.below b1
    replace kr := kr.below b1
    replace ox := own_below ox b1
    replace oy := own_below oy b1
    have cy0 := ky.here.cell 0 _ rfl
    have cy1 := ky.here.cell 1 _ rfl
    clear rdx cx0 cx1
    go_wp2_with fail
    refine (implIntOk_any _ y w1 hly (OwnS.mk (x := y) (ownI_of oy)).rd).mono ?_
    rintro e w2 ⟨rfl, b2⟩
    have bb2 := Below.next bb1 b2
    replace kx := kx.below b2
    replace ky := ky.below b2
    replace kr := kr.below b2
    replace ox := own_below ox b2
    replace oy := own_below oy b2
    clear cy0 cy1
    by_cases oky : okS y = true
    · rw [oky]
      have HZ := Lib.hid (addS_ok okx oky).symm
      have OKX := Lib.hid okx
      have OKY := Lib.hid oky
      have px := okS_parts okx
      have py := okS_parts oky
      have Nx := Lib.hid px.1
      have Ny := Lib.hid py.1
      have Dx := Lib.hid (natOk_parts px.1)
      have Dy := Lib.hid (natOk_parts py.1)
      have hlx5 := Dx.out.2.1
      have hly5 := Dy.out.2.1
      have cx0 := kx.here.cell 0 _ rfl
      have cx1 := kx.here.cell 1 _ rfl
      have cy0 := ky.here.cell 0 _ rfl
      have cy1 := ky.here.cell 1 _ rfl
      have rx := (ownI_of ox).row
      have ry := (ownI_of oy).row
      have hlt2 : w.heap.size + 1 + 1 < w2.heap.size := kr.lt _ (by simp)
      clear okx oky px py b1 b2
      go_upto_region 3 with fail
      go_wp2_with fail
      refine (compareLimbs_any _ _ x.2 y.2 0 _ 0 _ w2 (by omega) (by omega) ⟨Dx.out.1, Dx.out.2.2⟩ ⟨Dy.out.1, Dy.out.2.2⟩ rx ry).mono ?_
      rintro e w' ⟨rfl, q, rfl⟩
      clear cx0 cx1 cy0 cy1
      obtain ⟨W3, hW3⟩ : ∃ W3, W3 = w2.drewN q := ⟨_, rfl⟩
      have b3 : Below w2.heap.size w2 W3 := by rw [hW3]; exact below_drewN (Below.refl _ _) q
      have bb3 := Below.next bb2 b3
      have hlt3 : w.heap.size + 1 + 1 < W3.heap.size := by rw [hW3]; exact hlt2
      replace kx := kx.below b3
      replace ky := ky.below b3
      replace kr := kr.below b3
      replace ox := own_below ox b3
      replace oy := own_below oy b3
      rw [← hW3]
      clear rx ry b3 hW3 bb1 bb2 hlt2
      by_cases hle : nval y.2 ≤ nval x.2
      · have hz : 0 ≤ cmpI (nval x.2) (nval y.2) := by unfold cmpI; split <;> (try split) <;> omega
        have HLE := Lib.hid hle
        have OKP := OKX
        have OKQ := OKY
        have NP := Nx
        have NQ := Ny
        generalize cmpI (nval x.2) (nval y.2) = z at *
        have hzb : decide (z < 0) = false := decide_eq_false (by omega)
        clear hz hle
        obtain ⟨kP, kQ, oP, oQ⟩ : _ ∧ _ ∧ _ ∧ _ := ⟨kx, ky, ox, oy⟩
        clear kx ky ox oy
        -- P: the greater magnitude
        have rdP := (OwnS.mk (x := x) (ownI_of oP)).rd
        have cp0 := kP.here.cell 0 _ rfl
        have cp1 := kP.here.cell 1 _ rfl
        go_wp2_with fail
        refine (copyInt_any _ x W3 (by omega) rdP).mono ?_
        rintro e w4 ⟨b, rfl, hnx, b4⟩
        have bb4 := Below.next bb3 b4
        have hrQ : Row w4 0 W3.heap.size (.slice Ay y.2.length cy) (intsV y.2) := (ownI_of oQ).row.below b4 (Nat.le_refl _)
        replace kP := kP.below b4
        replace kQ := kQ.below b4
        replace kr := kr.below b4
        clear cp0 cp1 rdP oP oQ
        have cp0 := kP.here.cell 0 _ rfl
        have cq0 := kQ.here.cell 0 _ rfl
        have cq1 := kQ.here.cell 1 _ rfl
        have HKQ := Lib.hid kQ
        have HKR := Lib.hid kr
        have HNX := Lib.hid hnx
        have HRQ := Lib.hid hrQ
        have hsz3 : w.heap.size + 1 + 1 < W3.heap.size := hlt3
        clear kP kQ kr hnx hrQ
        by_cases hs : x.1 = y.1
        · have hsb : (x.1 == y.1) = true := by rw [hs]; simp
          have HV := Lib.hid ((add_mk OKP.out OKQ.out hs).trans HZ.out)
          clear hs HZ
          go_upto_region 9 with fail
          go_cut [] (fun wx => Hid (NatX (intK x.1) W3.heap.size b (limbs (nval x.2 + nval y.2).toNat) wx) ∧ Below W3.heap.size w4 wx)
          case first =>
            go_wp2_with fail
            go_region_with (go_at_call 77; refine (natAdd_any W3.heap.size b x.2 _ y.2 0 W3.heap.size _ NP.out NQ.out (Nat.le_refl _) HRQ.out.drew1 HNX.out.drew1).mono ?_; rintro e w5 ⟨rfl, hp5⟩; have H5 := Lib.hid hp5; clear hp5)
            all_goals
              go_wp2_with fail
              go_meet
              exact ⟨Lib.hid H5.out.1, (Below.drew1 (Below.refl _ _)).trans H5.out.2⟩
          rename World => w6
          obtain ⟨HX, b6⟩ := hcut
          have bb6 := below_low bb4 b6 (by omega)
          have kr6 := HKR.out.belowB b6 (fun g hg => by simp at hg; omega)
          clear cp0 cq0 cq1
          go_wp2_with fail
          refine (signed_any _ _ b _ _ (sum_short NP.out NQ.out) HX.out).mono ?_
          rw [HV.out]
          rintro e w7 ⟨u7, rfl, o7, b7⟩
          generalize addS x y = z7 at *
          obtain ⟨A7, c7, rfl⟩ := own_len o7
          have bb7 := Below.next bb6 b7
          have kr7 := kr6.below b7
          have cz0 := kr7.here.cell 0 _ rfl
          have cz1 := kr7.here.cell 1 _ rfl
          have fz0 := Lib.frozen_of_heap kr7.here 0
          have fz1 := Lib.frozen_of_heap kr7.here 1
          have HO := Lib.hid o7
          have HK := Lib.hid kr7
          clear o7 kr6 kr7 HX HV
          go_wp2
          refine bodyPost_ret (v := .agg #[.bool _, .slice A7 _ c7]) (by simp [results, Tryz.results37, go_sem, cz0, cz1]; exact ⟨rfl, rfl⟩) rfl ?_
          exact newS_ret HK.out.here HO.out (by omega) (by omega) bb7
        · have hsb : (x.1 == y.1) = false := by rw [beq_eq_false_iff_ne]; exact hs
          have HV := Lib.hid ((sub_mk OKP.out OKQ.out hs HLE.out).trans HZ.out)
          clear hs HZ
          go_upto_region 9 with fail
          go_cut [] (fun wx => Hid (NatX (intK x.1) W3.heap.size b (limbs (nval x.2 - nval y.2).toNat) wx) ∧ Below W3.heap.size w4 wx)
          case first =>
            go_wp2_with fail
            go_region_with (go_at_call 78; refine (natTake_any W3.heap.size b x.2 _ y.2 0 W3.heap.size _ (by omega) (lens_of_le NP.out NQ.out HLE.out) (natOk_parts NP.out).1 (natOk_parts NQ.out).1 HLE.out (Nat.le_refl _) HRQ.out.drew1 HNX.out.drew1).mono ?_; rintro e w5 ⟨rfl, hp5⟩; have H5 := Lib.hid hp5; clear hp5)
            all_goals
              go_wp2_with fail
              go_meet
              exact ⟨Lib.hid H5.out.1, (Below.drew1 (Below.refl _ _)).trans H5.out.2⟩
          rename World => w6
          obtain ⟨HX, b6⟩ := hcut
          have bb6 := below_low bb4 b6 (by omega)
          have kr6 := HKR.out.belowB b6 (fun g hg => by simp at hg; omega)
          clear cp0 cq0 cq1
          go_wp2_with fail
          refine (signed_any _ _ b _ _ (dif_short NP.out NQ.out HLE.out) HX.out).mono ?_
          rw [HV.out]
          rintro e w7 ⟨u7, rfl, o7, b7⟩
          generalize addS x y = z7 at *
          obtain ⟨A7, c7, rfl⟩ := own_len o7
          have bb7 := Below.next bb6 b7
          have kr7 := kr6.below b7
          have cz0 := kr7.here.cell 0 _ rfl
          have cz1 := kr7.here.cell 1 _ rfl
          have fz0 := Lib.frozen_of_heap kr7.here 0
          have fz1 := Lib.frozen_of_heap kr7.here 1
          have HO := Lib.hid o7
          have HK := Lib.hid kr7
          clear o7 kr6 kr7 HX HV
          go_wp2
          refine bodyPost_ret (v := .agg #[.bool _, .slice A7 _ c7]) (by simp [results, Tryz.results37, go_sem, cz0, cz1]; exact ⟨rfl, rfl⟩) rfl ?_
          exact newS_ret HK.out.here HO.out (by omega) (by omega) bb7
      · have hz : cmpI (nval x.2) (nval y.2) < 0 := by unfold cmpI; rw [if_pos (by omega)]; omega
        have hle2 : nval x.2 ≤ nval y.2 := by omega
        have HLE := Lib.hid hle2
        have OKP := OKY
        have OKQ := OKX
        have NP := Ny
        have NQ := Nx
        replace HZ : Hid (ofZ (valS y + valS x) = addS x y) := Lib.hid (by rw [Int.add_comm]; exact HZ.out)
        generalize cmpI (nval x.2) (nval y.2) = z at *
        have hzb : decide (z < 0) = true := decide_eq_true hz
        clear hz hle hle2
        have cx0 := kx.here.cell 0 _ rfl
        have cx1 := kx.here.cell 1 _ rfl
        have cy0 := ky.here.cell 0 _ rfl
        have cy1 := ky.here.cell 1 _ rfl
        have fx0 := Lib.frozen_of_heap kx.here 0
        have fx1 := Lib.frozen_of_heap kx.here 1
        have fy0 := Lib.frozen_of_heap ky.here 0
        have fy1 := Lib.frozen_of_heap ky.here 1
        have HKX := Lib.hid kx
        have HKY := Lib.hid ky
        clear kx ky
        go_upto_region 5 with fail
        obtain ⟨V3, hV3⟩ : ∃ V3, V3 = (((W3.setCell ⟨w.heap.size, 0, none⟩ (.bool y.1)).setCell ⟨w.heap.size, 1, none⟩ (.slice Ay y.2.length cy)).setCell ⟨w.heap.size + 1, 0, none⟩ (.bool x.1)).setCell ⟨w.heap.size + 1, 1, none⟩ (.slice Ax x.2.length cx) := ⟨_, rfl⟩
        rw [← hV3]
        have hsame : ∀ i, i ≠ w.heap.size → i ≠ w.heap.size + 1 → V3.heap[i]? = W3.heap[i]? := fun i h1 h2 => by
          rw [hV3, Below.heap_setCell _ _ _ _ h2, Below.heap_setCell _ _ _ _ h2, Below.heap_setCell _ _ _ _ h1, Below.heap_setCell _ _ _ _ h1]
        have hsize : V3.heap.size = W3.heap.size := by rw [hV3]; simp [World.setCell]
        have hnx0 := Lib.ownBlock_ne ox HKX.out.here (by decide)
        have hnx1 := Lib.ownBlock_ne ox HKY.out.here (by decide)
        have hny0 := Lib.ownBlock_ne oy HKX.out.here (by decide)
        have hny1 := Lib.ownBlock_ne oy HKY.out.here (by decide)
        have oP : V3.ownsRow 0 3 1 (.slice Ay y.2.length cy) y.2.length (intsV y.2) := own_stays (own_zero oy) fun i hi => hsame i (fun e => hny0 (by rw [hi, e])) (fun e => hny1 (by rw [hi, e]))
        have oQ : V3.ownsRow 0 3 1 (.slice Ax x.2.length cx) x.2.length (intsV x.2) := own_stays (own_zero ox) fun i hi => hsame i (fun e => hnx0 (by rw [hi, e])) (fun e => hnx1 (by rw [hi, e]))
        have kP : At [w.heap.size] (BoxAt w.heap.size #[.bool y.1, .slice Ay y.2.length cy] 25) V3 := box_at (by
          show V3.heap[w.heap.size]? = _
          rw [hV3, Below.heap_setCell _ _ _ _ (by simp), Below.heap_setCell _ _ _ _ (by simp)]
          exact swap_box HKX.out.here)
        have kQ : At [w.heap.size + 1] (BoxAt (w.heap.size + 1) #[.bool x.1, .slice Ax x.2.length cx] 25) V3 := box_at (by
          rw [hV3]
          refine swap_box (c0 := .bool y.1) (c1 := .slice Ay y.2.length cy) ?_
          show (World.heap _)[w.heap.size + 1]? = _
          rw [Below.heap_setCell _ _ _ _ (by simp), Below.heap_setCell _ _ _ _ (by simp)]
          exact HKY.out.here)
        replace kr : At [w.heap.size + 1 + 1] (BoxAt (w.heap.size + 1 + 1) #[.bool false, .slice none 0 0] 25) V3 := kr.move (fun g hg => by simp at hg; subst hg; exact hsame _ (by omega) (by omega)) (by omega)
        replace bb3 : Below w.heap.size w V3 := by rw [hV3]; exact below_set2 (below_set2 bb3 (Nat.le_refl _)) (by omega)
        replace hlt3 : w.heap.size + 1 + 1 < V3.heap.size := by omega
        clear hV3 hsame hsize hnx0 hnx1 hny0 hny1 ox oy cx0 cx1 cy0 cy1 fx0 fx1 fy0 fy1 HKX HKY
        -- P: the greater magnitude
        have rdP := (OwnS.mk (x := y) (ownI_of oP)).rd
        have cp0 := kP.here.cell 0 _ rfl
        have cp1 := kP.here.cell 1 _ rfl
        go_wp2_with fail
        refine (copyInt_any _ y V3 (by omega) rdP).mono ?_
        rintro e w4 ⟨b, rfl, hnx, b4⟩
        have bb4 := Below.next bb3 b4
        have hrQ : Row w4 0 V3.heap.size (.slice Ax x.2.length cx) (intsV x.2) := (ownI_of oQ).row.below b4 (Nat.le_refl _)
        replace kP := kP.below b4
        replace kQ := kQ.below b4
        replace kr := kr.below b4
        clear cp0 cp1 rdP oP oQ
        have cp0 := kP.here.cell 0 _ rfl
        have cq0 := kQ.here.cell 0 _ rfl
        have cq1 := kQ.here.cell 1 _ rfl
        have HKQ := Lib.hid kQ
        have HKR := Lib.hid kr
        have HNX := Lib.hid hnx
        have HRQ := Lib.hid hrQ
        have hsz3 : w.heap.size + 1 + 1 < V3.heap.size := hlt3
        clear kP kQ kr hnx hrQ
        by_cases hs : y.1 = x.1
        · have hsb : (y.1 == x.1) = true := by rw [hs]; simp
          have HV := Lib.hid ((add_mk OKP.out OKQ.out hs).trans HZ.out)
          clear hs HZ
          go_upto_region 9 with fail
          go_cut [] (fun wx => Hid (NatX (intK y.1) V3.heap.size b (limbs (nval y.2 + nval x.2).toNat) wx) ∧ Below V3.heap.size w4 wx)
          case first =>
            go_wp2_with fail
            go_region_with (go_at_call 77; refine (natAdd_any V3.heap.size b y.2 _ x.2 0 V3.heap.size _ NP.out NQ.out (Nat.le_refl _) HRQ.out.drew1 HNX.out.drew1).mono ?_; rintro e w5 ⟨rfl, hp5⟩; have H5 := Lib.hid hp5; clear hp5)
            all_goals
              go_wp2_with fail
              go_meet
              exact ⟨Lib.hid H5.out.1, (Below.drew1 (Below.refl _ _)).trans H5.out.2⟩
          rename World => w6
          obtain ⟨HX, b6⟩ := hcut
          have bb6 := below_low bb4 b6 (by omega)
          have kr6 := HKR.out.belowB b6 (fun g hg => by simp at hg; omega)
          clear cp0 cq0 cq1
          go_wp2_with fail
          refine (signed_any _ _ b _ _ (sum_short NP.out NQ.out) HX.out).mono ?_
          rw [HV.out]
          rintro e w7 ⟨u7, rfl, o7, b7⟩
          generalize addS x y = z7 at *
          obtain ⟨A7, c7, rfl⟩ := own_len o7
          have bb7 := Below.next bb6 b7
          have kr7 := kr6.below b7
          have cz0 := kr7.here.cell 0 _ rfl
          have cz1 := kr7.here.cell 1 _ rfl
          have fz0 := Lib.frozen_of_heap kr7.here 0
          have fz1 := Lib.frozen_of_heap kr7.here 1
          have HO := Lib.hid o7
          have HK := Lib.hid kr7
          clear o7 kr6 kr7 HX HV
          go_wp2
          refine bodyPost_ret (v := .agg #[.bool _, .slice A7 _ c7]) (by simp [results, Tryz.results37, go_sem, cz0, cz1]; exact ⟨rfl, rfl⟩) rfl ?_
          exact newS_ret HK.out.here HO.out (by omega) (by omega) bb7
        · have hsb : (y.1 == x.1) = false := by rw [beq_eq_false_iff_ne]; exact hs
          have HV := Lib.hid ((sub_mk OKP.out OKQ.out hs HLE.out).trans HZ.out)
          clear hs HZ
          go_upto_region 9 with fail
          go_cut [] (fun wx => Hid (NatX (intK y.1) V3.heap.size b (limbs (nval y.2 - nval x.2).toNat) wx) ∧ Below V3.heap.size w4 wx)
          case first =>
            go_wp2_with fail
            go_region_with (go_at_call 78; refine (natTake_any V3.heap.size b y.2 _ x.2 0 V3.heap.size _ (by omega) (lens_of_le NP.out NQ.out HLE.out) (natOk_parts NP.out).1 (natOk_parts NQ.out).1 HLE.out (Nat.le_refl _) HRQ.out.drew1 HNX.out.drew1).mono ?_; rintro e w5 ⟨rfl, hp5⟩; have H5 := Lib.hid hp5; clear hp5)
            all_goals
              go_wp2_with fail
              go_meet
              exact ⟨Lib.hid H5.out.1, (Below.drew1 (Below.refl _ _)).trans H5.out.2⟩
          rename World => w6
          obtain ⟨HX, b6⟩ := hcut
          have bb6 := below_low bb4 b6 (by omega)
          have kr6 := HKR.out.belowB b6 (fun g hg => by simp at hg; omega)
          clear cp0 cq0 cq1
          go_wp2_with fail
          refine (signed_any _ _ b _ _ (dif_short NP.out NQ.out HLE.out) HX.out).mono ?_
          rw [HV.out]
          rintro e w7 ⟨u7, rfl, o7, b7⟩
          generalize addS x y = z7 at *
          obtain ⟨A7, c7, rfl⟩ := own_len o7
          have bb7 := Below.next bb6 b7
          have kr7 := kr6.below b7
          have cz0 := kr7.here.cell 0 _ rfl
          have cz1 := kr7.here.cell 1 _ rfl
          have fz0 := Lib.frozen_of_heap kr7.here 0
          have fz1 := Lib.frozen_of_heap kr7.here 1
          have HO := Lib.hid o7
          have HK := Lib.hid kr7
          clear o7 kr6 kr7 HX HV
          go_wp2
          refine bodyPost_ret (v := .agg #[.bool _, .slice A7 _ c7]) (by simp [results, Tryz.results37, go_sem, cz0, cz1]; exact ⟨rfl, rfl⟩) rfl ?_
          exact newS_ret HK.out.here HO.out (by omega) (by omega) bb7
    · have oky' : okS y = false := by simpa using oky
      have HV := Lib.hid (show addS x y = zeroS by unfold addS; rw [if_neg (fun h => oky h.2)])
      rw [oky']
      have cz0 := kr.here.cell 0 _ rfl
      have cz1 := kr.here.cell 1 _ rfl
      have fz0 := Lib.frozen_of_heap kr.here 0
      have fz1 := Lib.frozen_of_heap kr.here 1
      clear oky kx ky kr ox oy
      go_wp2
      refine bodyPost_ret (v := .agg #[.bool false, .slice none 0 0]) (by simp [results, Tryz.results37, go_sem, cz0, cz1]) rfl ?_
      rw [HV.out]
      exact newS_zero (below_set2 bb2 (by omega))
  · have okx' : okS x = false := by simpa using okx
    have HV := Lib.hid (show addS x y = zeroS by unfold addS; rw [if_neg (fun h => okx h.1)])
    clear okx
    go_enter Tryz.func37, Tryz.ntmps37
    go_wp2_with fail
    rw [← HW.out]
    refine (implIntOk_any _ x _ hlx rdx).mono ?_
    rintro e w1 ⟨rfl, b1⟩
    rw [okx']
    have bb1 := Below.next hbb b1
    replace kr := kr.below b1
    have cz0 := kr.here.cell 0 _ rfl
    have cz1 := kr.here.cell 1 _ rfl
    have fz0 := Lib.frozen_of_heap kr.here 0
    have fz1 := Lib.frozen_of_heap kr.here 1
    clear kx ky kr rdx ox oy cx0 cx1
    go_wp2
    refine bodyPost_ret (v := .agg #[.bool false, .slice none 0 0]) (by simp [results, Tryz.results37, go_sem, cz0, cz1]) rfl ?_
    rw [HV.out]
    exact newS_zero (below_set2 bb1 (by omega))
theorem negS_len (x : SI) : (negS x).2.length ≤ 1048576 := by
  have := (natOk_parts (okS_parts (negS_ok x)).1).2.1
  omega
theorem sub_add (x : SI) {y : SI} (oky : okS y = true) : subS x y = addS x (negS y) := by
  unfold subS addS
  by_cases okx : okS x = true
  · rw [if_pos ⟨okx, oky⟩, if_pos ⟨okx, negS_ok y⟩, negS_val oky]; rfl
  · rw [if_neg (fun h => okx h.1), if_neg (fun h => okx h.1)]
set_option maxHeartbeats 4000000 in
set_option maxRecDepth 100000 in
theorem implIntSub_any (vx vy : Value) (x y : SI) (w : World) (hlx : x.2.length ≤ 1048576) (hly : y.2.length ≤ 1048576) (hx : OwnS vx x w) (hy : OwnS vy y w) :
    Calls Tryz.prog 40 #[vx, vy] w (NewS (subS x y) w) := by
  obtain ⟨ux, rfl, hox⟩ := hx
  obtain ⟨uy, rfl, hoy⟩ := hy
  obtain ⟨Ax, cx, rfl⟩ := own_len hox
  obtain ⟨Ay, cy, rfl⟩ := own_len hoy
  obtain ⟨W0, hW0⟩ : ∃ W0, W0 = ((w.alloc (.cells #[.bool x.1, .slice Ax x.2.length cx] 25)).alloc (.cells #[.bool y.1, .slice Ay y.2.length cy] 25)).alloc (.cells #[.bool false, .slice none 0 0] 25) := ⟨_, rfl⟩
  have hbb : Below w.heap.size w W0 := by rw [hW0]; exact below_al (below_al (below_al (Below.refl _ _) _) _) _
  have h3 := alloc3 w (.cells #[.bool x.1, .slice Ax x.2.length cx] 25) (.cells #[.bool y.1, .slice Ay y.2.length cy] 25) (.cells #[.bool false, .slice none 0 0] 25)
  rw [← hW0] at h3
  have kx : At [w.heap.size] (BoxAt w.heap.size #[.bool x.1, .slice Ax x.2.length cx] 25) W0 := box_at h3.1
  have ky : At [w.heap.size + 1] (BoxAt (w.heap.size + 1) #[.bool y.1, .slice Ay y.2.length cy] 25) W0 := box_at h3.2.1
  have kr : At [w.heap.size + 1 + 1] (BoxAt (w.heap.size + 1 + 1) #[.bool false, .slice none 0 0] 25) W0 := box_at h3.2.2.1
  have atx := own_at hox
  have aty := own_at hoy
  have ltx := atx.lt
  have lty := aty.lt
  have OFx := Lib.hid (show ∀ W, Chg [w.heap.size + 1 + 1] W0 W → OwnI (.slice Ax x.2.length cx) x.2 W from fun W hc => ((atx.below hbb).chg hc (fun i hi hm => by have := ltx i hi; simp at hm; omega)).here)
  have OFy := Lib.hid (show ∀ W, Chg [w.heap.size + 1 + 1] W0 W → OwnI (.slice Ay y.2.length cy) y.2 W from fun W hc => ((aty.below hbb).chg hc (fun i hi hm => by have := lty i hi; simp at hm; omega)).here)
  have KL := Lib.hid (show ∀ W, Chg [w.heap.size + 1 + 1] W0 W → W.cell? ⟨w.heap.size, 0, none⟩ = some (.bool x.1) ∧ W.cell? ⟨w.heap.size, 1, none⟩ = some (.slice Ax x.2.length cx) ∧ W.cell? ⟨w.heap.size + 1, 0, none⟩ = some (.bool y.1) ∧ W.cell? ⟨w.heap.size + 1, 1, none⟩ = some (.slice Ay y.2.length cy) ∧ Hid (Chg [w.heap.size + 1 + 1] W0 W) from
    fun W hc => ⟨(kx.chg hc (fun i hi hm => by simp at hi hm; omega)).here.cell 0 _ rfl, (kx.chg hc (fun i hi hm => by simp at hi hm; omega)).here.cell 1 _ rfl, (ky.chg hc (fun i hi hm => by simp at hi hm; omega)).here.cell 0 _ rfl, (ky.chg hc (fun i hi hm => by simp at hi hm; omega)).here.cell 1 _ rfl, Lib.hid hc⟩)
  have HW := Lib.hid hW0
  have RDy := Lib.hid (show ∀ W, Below W0.heap.size W0 W → RdS W (.agg #[.bool y.1, .slice Ay y.2.length cy]) y from fun W hb => (OwnS.mk (x := y) (OFy.out W (Chg.of_below hb))).rd)
  have cx0 := kx.here.cell 0 _ rfl
  have cx1 := kx.here.cell 1 _ rfl
  have cy0 := ky.here.cell 0 _ rfl
  have cy1 := ky.here.cell 1 _ rfl
  have frz := Lib.frozen_of_heap kr.here
  clear h3 atx aty ltx lty hW0 hox hoy
  by_cases oky : okS y = true
  · have HV := Lib.hid (sub_add x oky)
    have hnl := negS_len y
    go_enter Tryz.func40, Tryz.ntmps40
    go_wp2_with fail
    rw [← HW.out]
    refine (implIntOk_any _ y W0 hly (RDy.out W0 (Below.refl _ _))).mono ?_
    rintro e w2 ⟨rfl, b02⟩
    rw [oky]
    have bb2 := Below.next hbb b02
    replace kx := kx.below b02
    replace ky := ky.below b02
    replace kr := kr.below b02
    clear cx0 cx1 cy0 cy1
    have cx0 := kx.here.cell 0 _ rfl
    have cx1 := kx.here.cell 1 _ rfl
    have cy0 := ky.here.cell 0 _ rfl
    have cy1 := ky.here.cell 1 _ rfl
    go_wp2_with fail
    have KF := Lib.hid (show ∀ W, Chg [w.heap.size + 1 + 1] w2 W → Chg [w.heap.size + 1 + 1] W0 W from fun W hc => (Chg.of_below b02).trans hc)
    clear cx0 cx1 cy0 cy1
    go_region_held3 (fun W => W.cell? ⟨w.heap.size, 0, none⟩ = some (.bool x.1) ∧ W.cell? ⟨w.heap.size, 1, none⟩ = some (.slice Ax x.2.length cx) ∧ W.cell? ⟨w.heap.size + 1, 0, none⟩ = some (.bool y.1) ∧ W.cell? ⟨w.heap.size + 1, 1, none⟩ = some (.slice Ay y.2.length cy) ∧ Hid (Chg [w.heap.size + 1 + 1] W0 W))
      ((refine KL.out _ ?_; (first | exact HC2.out | exact HC1.out | exact (Chg.setCell (Chg.setCell HC2.out (by simp) _) (by simp) _) | exact KF.out _ ⟨rfl, rfl, rfl, Nat.le_refl _, fun _ _ _ => rfl⟩ | fail)))
      (first
        | (go_at_call 80; (have hBB := (‹_ ∧ _ ∧ _ ∧ _ ∧ Hid (Chg [w.heap.size + 1 + 1] W0 _)›).2.2.2.2); (with_reducible refine (implIntNeg_any _ y _ hly (OwnS.mk (x := y) (OFy.out _ hBB.out))).mono ?_); rintro e w3' ⟨u3', rfl, o3', b3'⟩; have HC1 := Lib.hid (hBB.out.trans (Chg.of_below b3')); (have kr3 := At.behind kr b3' rfl); (have bb3' := Below.next (show Below w.heap.size w w2.drew from bb2.drew) b3'); obtain ⟨A3', c3', rfl⟩ := own_len o3'; clear hBB)
        | (go_at_call 37; (have hBB := (‹_ ∧ _ ∧ _ ∧ _ ∧ Hid (Chg [w.heap.size + 1 + 1] W0 _)›).2.2.2.2); (with_reducible refine (implIntAdd_any _ _ x (negS y) _ hlx hnl (OwnS.mk (x := x) (OFx.out _ hBB.out)) (OwnS.mk (x := negS y) (ownI_of o3'))).mono ?_); rintro e w3 ⟨u3, rfl, o3, b3⟩; have HC2 := Lib.hid (hBB.out.trans (Chg.of_below b3)); (have kr4 := kr3.below b3); (have bb3 := Below.next bb3' b3); (have cz0 := kr4.here.cell 0 _ rfl); (have cz1 := kr4.here.cell 1 _ rfl); (have fz0 := Lib.frozen_of_heap kr4.here 0); (have fz1 := Lib.frozen_of_heap kr4.here 1); obtain ⟨A3, c3, rfl⟩ := own_len o3; clear hBB))
    have HO := Lib.hid o3
    have HBB := Lib.hid bb3
    have HK := Lib.hid kr4
    have HZ := Lib.hid bb3'.size
    clear o3 bb3 kr kr3 kr4 kx ky o3' b3' b3
    go_wp2
    refine bodyPost_ret (v := .agg #[.bool _, .slice A3 _ c3]) (by simp [results, Tryz.results40, go_sem, cz0, cz1]; exact ⟨rfl, rfl⟩) rfl ?_
    rw [HV.out]
    exact newS_ret HK.out.here HO.out HZ.out (by omega) HBB.out
  · have oky2 : okS y = false := by simpa using oky
    have HV := Lib.hid (show subS x y = zeroS by unfold subS; rw [if_neg (fun h => oky h.2)])
    clear oky
    go_enter Tryz.func40, Tryz.ntmps40
    go_wp2_with fail
    rw [← HW.out]
    refine (implIntOk_any _ y W0 hly (RDy.out W0 (Below.refl _ _))).mono ?_
    rintro e w2 ⟨rfl, b2⟩
    rw [oky2]
    have bb2 := Below.next hbb b2
    replace kr := kr.below b2
    have cz0 := kr.here.cell 0 _ rfl
    have cz1 := kr.here.cell 1 _ rfl
    have fz0 := Lib.frozen_of_heap kr.here 0
    have fz1 := Lib.frozen_of_heap kr.here 1
    clear kx ky kr cx0 cx1 cy0 cy1
    go_wp2
    refine bodyPost_ret (v := .agg #[.bool false, .slice none 0 0]) (by simp [results, Tryz.results40, go_sem, cz0, cz1]) rfl ?_
    rw [HV.out]
    exact newS_zero (below_set2 bb2 (by omega))
end Go.Proofs.YtbfolegllhpkjaaGreatDoor

namespace Go.Proofs.YtbfolegllhpkjaaGreatDoor
open Go.RowKit

/-- a fraction as data -/
abbrev QI : Type := SI × List Int
def zeroQ : QI := (zeroS, [])
/-- what RatOk answers -/
def okQ (q : QI) : Bool := okS q.1 && natOkB q.2 && decide (0 < q.2.length ∧ q.2.length ≤ 18 ∧ q.1.2.length ≤ 18 ∧ Nat.gcd (nval q.1.2).toNat (nval q.2).toNat = 1)
/-- a fraction in lowest terms, with its sign; false where it has too many limbs, or is by 0 -/
def lowQ (n : Bool) (a b : Nat) : QI × Bool :=
  if b ≠ 0 ∧ (limbs (a / Nat.gcd a b)).length ≤ 18 ∧ (limbs (b / Nat.gcd a b)).length ≤ 18 then ((mkS n (limbs (a / Nat.gcd a b)), limbs (b / Nat.gcd a b)), true) else (zeroQ, false)
def numQ (q : QI) : Int := valS q.1
def denQ (q : QI) : Nat := (nval q.2).toNat
theorem okQ_parts {q : QI} (h : okQ q = true) : okS q.1 = true ∧ natOkB q.2 = true ∧ 0 < q.2.length ∧ q.2.length ≤ 18 ∧ q.1.2.length ≤ 18 ∧ Nat.gcd (nval q.1.2).toNat (nval q.2).toNat = 1 := by
  unfold okQ at h
  rw [Bool.and_eq_true, Bool.and_eq_true, decide_eq_true_eq] at h
  exact ⟨h.1.1, h.1.2, h.2.1, h.2.2.1, h.2.2.2.1, h.2.2.2.2⟩
/-- what the functions answer -/
def makeQ (x y : SI) : QI × Bool := if okS x = true ∧ okS y = true then lowQ (x.1 != y.1) (nval x.2).toNat (nval y.2).toNat else (zeroQ, false)
def addQ (r s : QI) : QI × Bool := if okQ r = true ∧ okQ s = true then lowQ (decide (numQ r * denQ s + numQ s * denQ r < 0)) (numQ r * denQ s + numQ s * denQ r).natAbs (denQ r * denQ s) else (zeroQ, false)
def negQ (r : QI) : QI × Bool := if okQ r = true then ((negS r.1, r.2), true) else (zeroQ, false)
def mulQ (r s : QI) : QI × Bool := if okQ r = true ∧ okQ s = true then lowQ (r.1.1 != s.1.1) ((nval r.1.2).toNat * (nval s.1.2).toNat) (denQ r * denQ s) else (zeroQ, false)
def divQ (r s : QI) : QI × Bool := if okQ r = true ∧ okQ s = true then lowQ (r.1.1 != s.1.1) ((nval r.1.2).toNat * denQ s) (denQ r * (nval s.1.2).toNat) else (zeroQ, false)
def subQ (r s : QI) : QI × Bool := if (negQ s).2 = true then addQ r (negQ s).1 else (zeroQ, false)
def cmpQ (r s : QI) : Int := if okQ r = true ∧ okQ s = true then cmpI (numQ r * denQ s) (numQ s * denQ r) else 0
def oneQ : QI := (zeroS, [1])
theorem denQ_pos {q : QI} (h : okQ q = true) : 0 < denQ q := by
  have hp := okQ_parts h
  have h1 := ok_ge hp.2.1 hp.2.2.1
  have h2 := bp_pos (q.2.length - 1)
  unfold denQ
  omega
theorem oneQ_ok : okQ oneQ = true := by
  have e : nval [1] = 1 := rfl
  unfold okQ oneQ
  rw [e]
  rfl
theorem limbs_18 {n : Bool} {m : Nat} (h : (limbs m).length ≤ 18) : mkS n (limbs m) = (n && decide (0 < (limbs m).length), limbs m) := by
  unfold mkS capL
  rw [if_neg (by omega)]
/-- what comes out in lowest terms is right -/
theorem lowQ_ok (n : Bool) (a b : Nat) (h : (lowQ n a b).2 = true) : okQ (lowQ n a b).1 = true := by
  unfold lowQ at h ⊢
  split
  · rename_i hc
    obtain ⟨hb, h1, h2⟩ := hc
    have hg : 0 < Nat.gcd a b := Nat.gcd_pos_of_pos_right _ (by omega)
    have hbq : b / Nat.gcd a b ≠ 0 := by
      have := Nat.div_pos (Nat.le_of_dvd (by omega) (Nat.gcd_dvd_right a b)) hg
      omega
    have hlb : 0 < (limbs (b / Nat.gcd a b)).length := by
      rcases Nat.eq_zero_or_pos (limbs (b / Nat.gcd a b)).length with h0 | h0
      · exact absurd ((limbs_zero_iff _).1 h0) hbq
      · exact h0
    have hs : okS (mkS n (limbs (a / Nat.gcd a b))) = true := by rw [mkS_limbs]; exact ofZ_ok _
    have e2 : (mkS n (limbs (a / Nat.gcd a b))).2 = limbs (a / Nat.gcd a b) := by rw [limbs_18 h1]
    unfold okQ
    simp only
    rw [hs, limbs_okL _ (by omega), e2, limbs_val, limbs_val, Int.toNat_natCast, Int.toNat_natCast]
    simp only [Bool.true_and, decide_eq_true_eq]
    exact ⟨hlb, h2, h1, Nat.gcd_div_gcd_div_gcd_of_pos_right (by omega)⟩
  · rename_i hc
    rw [if_neg hc] at h
    cases h
end Go.Proofs.YtbfolegllhpkjaaGreatDoor

namespace Go.Proofs.YtbfolegllhpkjaaGreatDoor
open Go.RowKit

/-- a value that stands for it, its limbs of the call's own, those of the two parts apart -/
def OwnQ (v : Value) (q : QI) (w : World) : Prop := ∃ u d, v = .agg #[.bool q.1.1, u, d] ∧ OwnI u q.1.2 w ∧ OwnI d q.2 w ∧ (∀ g, u.ownBlock = some g → d.ownBlock ≠ some g)
def MarkQ (v : Value) (q : QI) (m : Int) (w : World) : Prop := ∃ u d, v = .agg #[.bool q.1.1, u, d] ∧ MarkI u q.1.2 m w ∧ MarkI d q.2 (m + szS q.1) w
/-- a value that reads as it -/
def RdQ (w : World) (v : Value) (q : QI) : Prop := ∃ u d, v = .agg #[.bool q.1.1, u, d] ∧ Row w 0 w.heap.size u (intsV q.1.2) ∧ Row w 0 w.heap.size d (intsV q.2)
def szQ (q : QI) : Int := szS q.1 + szI q.2
theorem OwnQ.rd {v : Value} {q : QI} {w : World} (h : OwnQ v q w) : RdQ w v q := by
  obtain ⟨u, d, rfl, o, p, _⟩ := h
  exact ⟨u, d, rfl, o.row, p.row⟩
theorem RdQ.below {w W : World} {v : Value} {q : QI} (h : RdQ w v q) (hb : Below w.heap.size w W) : RdQ W v q := by
  obtain ⟨u, d, rfl, o, p⟩ := h
  exact ⟨u, d, rfl, (o.below hb (Nat.le_refl _)).wide (Nat.le_refl _) hb.size, (p.below hb (Nat.le_refl _)).wide (Nat.le_refl _) hb.size⟩
/-- a new fraction -/
def NewQ (q : QI) (w : World) (e : Ending) (w' : World) : Prop :=
  ∃ u d, e = .returned (.agg #[.bool q.1.1, u, d]) ∧ w'.ownsRow w.heap.size 3 1 u q.1.2.length (intsV q.1.2) ∧ w'.ownsRow w.heap.size 3 1 d q.2.length (intsV q.2) ∧ (∀ g, u.ownBlock = some g → d.ownBlock ≠ some g) ∧ Below w.heap.size w w'



theorem set3_at {g : Nat} {a b c c0 c1 c2 : Value} {T : TypeId} {W : World} (h : BoxAt g #[c0, c1, c2] T W) : BoxAt g #[a, b, c2] T ((W.setCell ⟨g, 0, none⟩ a).setCell ⟨g, 1, none⟩ b) ∧ BoxAt g #[c0, c1, c] T (W.setCell ⟨g, 2, none⟩ c) := by
  have h' : W.heap[g]? = some (.cells #[c0, c1, c2] T (0, 0)) := h
  exact ⟨by simp [BoxAt, World.setCell, Array.getElem?_modify, h'], by simp [BoxAt, World.setCell, Array.getElem?_modify, h']⟩

/-- the blocks of the limbs of both parts -/
def partsB (u d : Value) : List Nat := u.ownBlock.toList ++ d.ownBlock.toList
theorem At.both {S T : List Nat} {φ ψ : World → Prop} {w : World} (h : At S φ w) (k : At T ψ w) : At (S ++ T) (fun w => φ w ∧ ψ w) w :=
  ⟨⟨h.here, k.here⟩, fun g hg => by rcases List.mem_append.1 hg with hg | hg; exact h.lt g hg; exact k.lt g hg,
    fun w' hk => ⟨h.stays w' fun g hg => hk g (List.mem_append_left _ hg), k.stays w' fun g hg => hk g (List.mem_append_right _ hg)⟩⟩

end Go.Proofs.YtbfolegllhpkjaaGreatDoor

namespace Go.Proofs.YtbfolegllhpkjaaGreatDoor
open Go.RowKit

/-- a new local of a struct type: its box, and the memory that it leads to -/
def NewLocV (T : TypeId) (φ : Value → World → Prop) (W0 : World) (s : Value) (W : World) : Prop :=
  ∃ (g : Nat) (cs : Array Value) (S : List Nat), s = .pointer (some ⟨g, 0, none⟩) ∧ At [g] (BoxAt g cs T) W ∧ At S (φ (.agg cs)) W ∧ g ∉ S ∧ Within (g :: S) W0.heap.size W.heap.size ∧ Below W0.heap.size W0 W
theorem within_up {S : List Nat} {a b c d : Nat} (h : Within S a b) (ha : c ≤ a) (hb : b ≤ d) : Within S c d := fun g hg => by have := h g hg; omega
theorem newLocV_last {T : TypeId} {φ : Value → World → Prop} {W0 W W1 : World} {cs : Array Value} {S : List Nat} (o : At S (φ (.agg cs)) W) (l : Within S W1.heap.size W.heap.size) (hB : W0.heap.size ≤ W1.heap.size) (hW : Below W0.heap.size W0 W) :
    NewLocV T φ W0 (.pointer (some ⟨W.heap.size, 0, none⟩)) (W.alloc (.cells cs T)) :=
  ⟨W.heap.size, cs, S, rfl, box_new W cs T, o.below (below_al (Below.refl _ _) _), fun h => by have := l _ h; omega, fun i hi => by
    rcases List.mem_cons.1 hi with rfl | hi
    · exact ⟨hW.size, by simp⟩
    · have := l i hi
      simp
      omega, below_al hW _⟩
theorem newLocV_of {T : TypeId} {φ : Value → World → Prop} {W0 W W' : World} {g : Nat} {cs : Array Value} {S : List Nat} {B : Nat} (hb : BoxAt g cs T W') (o : At S (φ (.agg cs)) W) (l : Within S B W.heap.size) (hg : W0.heap.size ≤ g) (hgB : g < B) (hc : Chg [g] W W') (hW : Below W0.heap.size W0 W) :
    NewLocV T φ W0 (.pointer (some ⟨g, 0, none⟩)) W' := by
  have hn : g ∉ S := fun h => by have := l _ h; omega
  have h1 := (Array.getElem?_eq_some_iff.1 hb).1
  have hz := hc.size
  refine ⟨g, cs, S, rfl, box_at hb, o.chg hc (fun i hi hm => by simp at hm; subst hm; exact hn hi), hn, fun i hi => ?_, below_chg hW hc hW.size (fun i hi => by simp at hi; omega)⟩
  rcases List.mem_cons.1 hi with rfl | hi
  · exact ⟨hg, h1⟩
  · have := l i hi
    omega
theorem newLocV_early2 {T : TypeId} {φ : Value → World → Prop} {W0 W W1 : World} {g : Nat} {z0 z1 c0 c1 : Value} {S : List Nat} (hb : BoxAt g #[z0, z1] T W) (o : At S (φ (.agg #[c0, c1])) W) (l : Within S W1.heap.size W.heap.size) (hg : W0.heap.size ≤ g) (hgB : g < W1.heap.size) (hW : Below W0.heap.size W0 W) :
    NewLocV T φ W0 (.pointer (some ⟨g, 0, none⟩)) ((W.setCell ⟨g, 0, none⟩ c0).setCell ⟨g, 1, none⟩ c1) :=
  have hb' : W.heap[g]? = some (.cells #[z0, z1] T (0, 0)) := hb
  newLocV_of (by simp [BoxAt, World.setCell, Array.getElem?_modify, hb']) o l hg hgB (((Chg.refl _ _).setCell (by simp) _).setCell (by simp) _) hW
theorem newLocV_early3 {T : TypeId} {φ : Value → World → Prop} {W0 W W1 : World} {g : Nat} {z0 z1 z2 c0 c1 c2 : Value} {S : List Nat} (hb : BoxAt g #[z0, z1, z2] T W) (o : At S (φ (.agg #[c0, c1, c2])) W) (l : Within S W1.heap.size W.heap.size) (hg : W0.heap.size ≤ g) (hgB : g < W1.heap.size) (hW : Below W0.heap.size W0 W) :
    NewLocV T φ W0 (.pointer (some ⟨g, 0, none⟩)) (((W.setCell ⟨g, 0, none⟩ c0).setCell ⟨g, 1, none⟩ c1).setCell ⟨g, 2, none⟩ c2) :=
  have hb' : W.heap[g]? = some (.cells #[z0, z1, z2] T (0, 0)) := hb
  newLocV_of (by simp [BoxAt, World.setCell, Array.getElem?_modify, hb']) o l hg hgB ((((Chg.refl _ _).setCell (by simp) _).setCell (by simp) _).setCell (by simp) _) hW
theorem At.below_lt {g : Nat} {φ : World → Prop} {w w' : World} (h : At [g] φ w) (hb : Below w.heap.size w w') : At [g] φ w' ∧ g < w.heap.size := ⟨h.below hb, h.lt g (by simp)⟩
theorem below_set3 {W0 W : World} {g : Nat} {a b c : Value} (h : Below W0.heap.size W0 W) (hg : W0.heap.size ≤ g) : Below W0.heap.size W0 (((W.setCell ⟨g, 0, none⟩ a).setCell ⟨g, 1, none⟩ b).setCell ⟨g, 2, none⟩ c) := ((h.setCell (p := ⟨g, 0, none⟩) hg _).setCell (p := ⟨g, 1, none⟩) hg _).setCell (p := ⟨g, 2, none⟩) hg _
theorem At.more {S U : List Nat} {φ : World → Prop} {w : World} (h : At S φ w) (hs : ∀ g ∈ S, g ∈ U) (hl : ∀ g ∈ U, g < w.heap.size) : At U φ w := ⟨h.here, hl, fun w' hk => h.stays w' fun g hg => hk g (hs g hg)⟩
/-- a fact that says what limbs a slice holds leans on their block -/
theorem at_ints_mem {S : List Nat} {φ : World → Prop} {w : World} {u : Value} {xs : List Int} (h : At S φ w) (hi : ∀ w', φ w' → OwnI u xs w') : ∀ g, u.ownBlock = some g → g ∈ S := by
  intro g hg
  rcases Classical.em (g ∈ S) with hin | hout
  · exact hin
  · exfalso
    have hst := hi _ (h.stays { w with heap := w.heap.set! g (.cells #[] 4 (0, 0)) } (fun i hi => by
      have : i ≠ g := fun e => hout (e ▸ hi)
      simp [Ne.symm this]))
    have hlt := (own_lt (hi _ h.here) hg).2
    obtain ⟨_, ⟨rfl, _⟩ | ⟨g', cap, cur, rfl, _, hh, _⟩⟩ := hst
    · cases hg
    · cases hg
      have hlt' : g' < w.heap.size := hlt
      have hh' : (w.heap.setIfInBounds g' (.cells #[] 4 (0, 0)))[g']? = some (.cells cur 3 (0, 0)) := hh
      rw [Array.getElem?_setIfInBounds_self_of_lt hlt'] at hh'
      simp at hh'
theorem toList_own {u : Value} {S : List Nat} (h : ∀ g, u.ownBlock = some g → g ∈ S) : ∀ g ∈ u.ownBlock.toList, g ∈ S := fun g hg => h g (by simpa using hg)

/-! ### kind S: impl.Signed -/
def capS (x : SI) : Prop := x.2.length ≤ 9223372036854775807
theorem szS_nonneg (x : SI) : 0 ≤ szS x := by unfold szS szI; omega
theorem capS_of {x : SI} (h : szS x ≤ 1048576) : capS x := by unfold szS szI at h; unfold capS; omega
theorem ownS_form {v : Value} {x : SI} {w : World} (h : OwnS v x w) : ∃ A c, v = .agg #[.bool x.1, .slice A x.2.length c] := by
  obtain ⟨u, rfl, o⟩ := h
  obtain ⟨A, c, rfl⟩ := own_len o
  exact ⟨A, c, rfl⟩
theorem rdS_form {v : Value} {x : SI} {w : World} (h : RdS w v x) : ∃ A c, v = .agg #[.bool x.1, .slice A x.2.length c] := by
  obtain ⟨u, rfl, o⟩ := h
  obtain ⟨A, c, rfl⟩ := row_form o
  rw [intsV_length]
  exact ⟨A, c, rfl⟩
theorem RdS.below {w W : World} {v : Value} {x : SI} (h : RdS w v x) (hb : Below w.heap.size w W) : RdS W v x := by
  obtain ⟨u, rfl, o⟩ := h
  exact ⟨u, rfl, (o.below hb (Nat.le_refl _)).wide (Nat.le_refl _) hb.size⟩
theorem NewS.newV {x : SI} {w w' : World} {e : Ending} (h : NewS x w e w') : NewV (fun v => OwnS v x) w e w' := by
  obtain ⟨u, rfl, o, b⟩ := h
  exact ⟨_, u.ownBlock.toList, rfl, (own_at' o).imp fun _ h => OwnS.mk h, own_within o, b⟩

def PostT (R0 : ByteArray) (w : World) (e : Ending) (w' : World) : Prop := e = .returned (.string R0) ∧ Below w.heap.size w w'
end Go.Proofs.YtbfolegllhpkjaaGreatDoor

namespace Go.Proofs.YtbfolegllhpkjaaGreatDoor
open Go.RowKit

/-! ### kind R: impl.Rat -/
def capQ (x : QI) : Prop := x.1.2.length ≤ 9223372036854775807 ∧ x.2.length ≤ 9223372036854775807
theorem szQ_nonneg (x : QI) : 0 ≤ szQ x := by unfold szQ szS szI; omega
theorem szQ_len {x : QI} (h : szQ x ≤ 1048576) : x.1.2.length ≤ 1048576 ∧ x.2.length ≤ 1048576 := by unfold szQ szS szI at h; omega
theorem capQ_of {x : QI} (h : szQ x ≤ 1048576) : capQ x := by have := szQ_len h; unfold capQ; omega
theorem ownQ_form {v : Value} {x : QI} {w : World} (h : OwnQ v x w) : ∃ A c B d, v = .agg #[.bool x.1.1, .slice A x.1.2.length c, .slice B x.2.length d] := by
  obtain ⟨u, d, rfl, o, p, _⟩ := h
  obtain ⟨A, c, rfl⟩ := own_len o
  obtain ⟨B, d, rfl⟩ := own_len p
  exact ⟨A, c, B, d, rfl⟩
theorem rdQ_form {v : Value} {x : QI} {w : World} (h : RdQ w v x) : ∃ A c B d, v = .agg #[.bool x.1.1, .slice A x.1.2.length c, .slice B x.2.length d] := by
  obtain ⟨u, d, rfl, o, p⟩ := h
  obtain ⟨A, c, rfl⟩ := row_form o
  obtain ⟨B, d, rfl⟩ := row_form p
  rw [intsV_length, intsV_length]
  exact ⟨A, c, B, d, rfl⟩
theorem partsQ_at {u d : Value} {x : QI} {B C : Nat} {w : World} (ou : w.ownsRow B 3 1 u x.1.2.length (intsV x.1.2)) (od : w.ownsRow C 3 1 d x.2.length (intsV x.2)) (hap : ∀ g, u.ownBlock = some g → d.ownBlock ≠ some g) :
    At (partsB u d) (OwnQ (.agg #[.bool x.1.1, u, d]) x) w := (At.both (own_at' ou) (own_at' od)).imp fun _ h => ⟨u, d, rfl, h.1, h.2, hap⟩
theorem NewQ.newV {x : QI} {w w' : World} {e : Ending} (h : NewQ x w e w') : NewV (fun v => OwnQ v x) w e w' := by
  obtain ⟨u, d, rfl, o, p, hap, b⟩ := h
  exact ⟨_, partsB u d, rfl, partsQ_at o p hap, fun g hg => by
    rcases List.mem_append.1 hg with hg | hg
    · exact own_within o g hg
    · exact own_within p g hg, b⟩
theorem ownQ_open {u d : Value} {c : Value} {x : QI} {w : World} (h : OwnQ (.agg #[c, u, d]) x w) : c = .bool x.1.1 ∧ OwnI u x.1.2 w ∧ OwnI d x.2 w ∧ (∀ g, u.ownBlock = some g → d.ownBlock ≠ some g) := by
  obtain ⟨u', d', e, hu, hd, hap⟩ := h
  injection e with e
  simp at e
  obtain ⟨e1, e2, e3⟩ := e
  subst e1 e2 e3
  exact ⟨rfl, hu, hd, hap⟩

/-! ### what calls answer: a new fraction or signed number, and scalars with it -/
def PostQb (R0 : QI) (R1 : Bool) (w : World) (e : Ending) (w' : World) : Prop :=
  ∃ (v : Value) (S : List Nat), e = .returned (.tuple #[v, .bool R1]) ∧ At S (OwnQ v R0) w' ∧ Within S w.heap.size w'.heap.size ∧ Below w.heap.size w w'
end Go.Proofs.YtbfolegllhpkjaaGreatDoor

namespace Go.Proofs.YtbfolegllhpkjaaGreatDoor
open Go.RowKit

/-- what NatGcd answers -/
def gcdN (a b : List Int) : List Int := if natOkB a = true ∧ natOkB b = true then limbs (Nat.gcd (nval a).toNat (nval b).toNat) else []
theorem gcd_step (X Y : Nat) : Nat.gcd Y (X % Y) = Nat.gcd X Y := by
  rw [Nat.gcd_comm Y, ← Nat.gcd_rec, Nat.gcd_comm]
theorem limbs_empty {n : Nat} (h : ¬ 0 < (limbs n).length) : n = 0 := by
  rcases Nat.eq_zero_or_pos n with h0 | h0
  · exact h0
  · rw [limbs, dif_neg (by omega)] at h
    simp at h
theorem limbs_some {n : Nat} (h : 0 < (limbs n).length) : 0 < n := by
  rcases Nat.eq_zero_or_pos n with h0 | h0
  · subst h0; rw [limbs, dif_pos rfl] at h; simp at h
  · exact h0
theorem limbs_mod_len (X Y : Nat) (h : (limbs Y).length ≤ 50) (h0 : 0 < Y) : (limbs (X % Y)).length ≤ 50 := by
  have hm := Nat.mod_lt X h0
  have := limbs_mono (m := ((X % Y : Nat) : Int)) (n := (Y : Int)) (by omega) (by omega)
  rw [Int.toNat_natCast, Int.toNat_natCast] at this
  omega
/-- the state of NatGcd's loop -/
def GcdS (w : World) (G : Nat) (n : Nat) (x y : Value) (wr : World) : Prop :=
  ∃ X Y : Nat, n = Y ∧ Nat.gcd X Y = G ∧ (limbs X).length ≤ 50 ∧ (limbs Y).length ≤ 50 ∧ wr.ownsRow w.heap.size 3 1 x (limbs X).length (intsV (limbs X)) ∧ wr.ownsRow w.heap.size 3 1 y (limbs Y).length (intsV (limbs Y)) ∧ Below w.heap.size w wr


/-- powers of ten -/
def tenN (k : Int) : List Int := if 0 ≤ k ∧ k ≤ 449 then limbs (10 ^ k.toNat) else []
theorem bp_ten (m : Nat) : bp m = 10 ^ (9 * m) := by
  induction m with
  | zero => rfl
  | succ m ih =>
    show 1000000000 * bp m = _
    rw [ih, show 9 * (m + 1) = 9 * m + 9 by omega, Int.pow_add, Int.mul_comm]
    rfl
theorem ten_pos (k : Nat) : (0 : Int) < 10 ^ k := Int.pow_pos (by omega)
theorem ten_eight (k : Nat) (h : k ≤ 8) : (10 : Int) ^ k ≤ 100000000 := by
  match k, h with
  | 0, _ => decide
  | 1, _ => decide
  | 2, _ => decide
  | 3, _ => decide
  | 4, _ => decide
  | 5, _ => decide
  | 6, _ => decide
  | 7, _ => decide
  | 8, _ => decide
theorem ten_limbs (k : Nat) : limbs (10 ^ k) = List.replicate (k / 9) 0 ++ [(10 : Int) ^ (k % 9)] := by
  have h8 := ten_eight (k % 9) (by omega)
  have hp := ten_pos (k % 9)
  have hd : DigN (List.replicate (k / 9) 0 ++ [(10 : Int) ^ (k % 9)]) := (dig_zeros _).append (dig_one (by omega) (by omega))
  have hl : (List.replicate (k / 9) 0 ++ [(10 : Int) ^ (k % 9)]).getLastD 1 ≠ 0 := by
    rw [List.getLastD_eq_getLast?, List.getLast?_append]
    simp
    omega
  have hv : nval (List.replicate (k / 9) 0 ++ [(10 : Int) ^ (k % 9)]) = 10 ^ k := by
    rw [nval_append, nval_zeros, List.length_replicate, bp_ten]
    show 0 + 10 ^ (9 * (k / 9)) * (10 ^ (k % 9) + 1000000000 * 0) = _
    rw [Int.mul_zero, Int.add_zero, Int.zero_add, ← Int.pow_add, Nat.div_add_mod]
  rw [← trim_last _ hl, trim_limbs _ hd, hv]
  congr 1


/-- what NatScale answers -/
def scaleN (a : List Int) (k : Int) : List Int := if k < 0 then [] else mulN a (tenN k)
theorem tenN_len (k : Int) : (tenN k).length ≤ 50 := by
  unfold tenN
  split
  · rename_i h
    rw [ten_limbs]
    simp
    omega
  · simp

/-- what NatCut answers -/
def cutN (a : List Int) (k : Int) : List Int × List Int := if 0 ≤ k ∧ k ≤ 440 then divN a (tenN k) else ([], [])

/-- what NatEven answers -/
def evenB (a : List Int) : Bool := natOkB a && decide (a.headD 0 % 2 = 0)
end Go.Proofs.YtbfolegllhpkjaaGreatDoor

namespace Go.Proofs.YtbfolegllhpkjaaGreatDoor
open Go.RowKit

/-- what IntNum answers -/
def numS (x : SI) : Int × Bool := if okS x = true ∧ nval x.2 ≤ 9223372036854775807 then (valS x, true) else (0, false)



end Go.Proofs.YtbfolegllhpkjaaGreatDoor

namespace Go.Proofs.YtbfolegllhpkjaaGreatDoor
open Go.RowKit

/-- the state of l05Gcd's loop -/
def GcdR (w : World) (G : Nat) (n : Nat) (x y : Value) (wr : World) : Prop :=
  ∃ X Y : Nat, n = Y ∧ Nat.gcd X Y = G ∧ (limbs X).length ≤ 50 ∧ (limbs Y).length ≤ 50 ∧ wr.ownsRow 0 3 1 x (limbs X).length (intsV (limbs X)) ∧ wr.ownsRow 0 3 1 y (limbs Y).length (intsV (limbs Y)) ∧ Below w.heap.size w wr
end Go.Proofs.YtbfolegllhpkjaaGreatDoor

namespace Go.Proofs.YtbfolegllhpkjaaGreatDoor
open Go.RowKit
theorem one_val : nval [1] = 1 := rfl
theorem one_dig : DigN [1] ∧ [(1 : Int)].getLastD 1 ≠ 0 := by
  refine ⟨fun d hd => ?_, by decide⟩
  simp at hd
  omega
theorem one_limbs : limbs 1 = [1] := by rw [limbs, dif_neg (by decide), show 1 / 1000000000 = 0 from rfl, limbs, dif_pos rfl]; rfl
/-- a slice literal in its block -/
theorem box_row {g : Nat} {cs : Array Value} {T : TypeId} {w : World} (h : BoxAt g cs T w) : Row w 0 w.heap.size (.slice (some ⟨g, 0, none⟩) cs.size cs.size) cs.toList := by
  have hg := (Array.getElem?_eq_some_iff.1 h).1
  refine ⟨some ⟨g, 0, none⟩, cs.size, by simp, fun j u hj => ⟨⟨g, 0, none⟩, rfl, Nat.zero_le _, hg, ?_⟩⟩
  have e1 : (Addr.add ⟨g, 0, none⟩ j) = ⟨g, j, none⟩ := by
    unfold Addr.add
    cases j with
    | zero => rfl
    | succ n => simp
  rw [e1, Lib.cell_of_heap h]
  simpa using hj
theorem gcdN_small (a b : List Int) : (gcdN a b).length ≤ 50 := by
  unfold gcdN
  split
  · rename_i h
    have pa := natOk_limbs h.1
    have pb := natOk_limbs h.2
    have la := (natOk_parts h.1).2.1
    have lb := (natOk_parts h.2).2.1
    have na := nval_ok h.1
    have nb := nval_ok h.2
    by_cases h0 : 0 < (nval a).toNat
    · have hm := limbs_mono (m := ((Nat.gcd (nval a).toNat (nval b).toNat : Nat) : Int)) (n := nval a) (by omega) (by have := Nat.gcd_le_left (nval b).toNat h0; omega)
      rw [Int.toNat_natCast, ← pa] at hm
      omega
    · rw [show (nval a).toNat = 0 by omega, Nat.gcd_zero_left, ← pb]
      exact lb
  · simp
theorem gcd_one_iff {x : QI} (h1 : natOkB x.1.2 = true) (h2 : natOkB x.2 = true) : (cmpI (nval (gcdN x.1.2 x.2)) (nval [1]) = 0) ↔ Nat.gcd (nval x.1.2).toNat (nval x.2).toNat = 1 := by
  unfold gcdN
  rw [if_pos ⟨h1, h2⟩, limbs_val, one_val]
  unfold cmpI
  split
  · omega
  · split <;> omega
end Go.Proofs.YtbfolegllhpkjaaGreatDoor

namespace Go.Proofs.YtbfolegllhpkjaaGreatDoor
open Go.RowKit
theorem trim_ok (n : Nat) : trimL (limbs n) = limbs n := trim_last _ (limbs_lastN n)
theorem oneCells (l : List Int) : ∀ u ∈ intsV l, u.oneCell' = true := fun u hu => by obtain ⟨x, _, rfl⟩ := List.mem_map.1 hu; rfl
/-- a struct result that lies in its cells at block r: a new value and a bool with it -/
theorem newQb_ret {r : Nat} {u d c0 c1 c2 : Value} {x : QI} {b : Bool} {w W : World} {B C : Nat} (hb : BoxAt r #[c0, c1, c2] 37 W) (o : W.ownsRow B 3 1 u x.1.2.length (intsV x.1.2)) (p : W.ownsRow C 3 1 d x.2.length (intsV x.2))
    (hap : ∀ g, u.ownBlock = some g → d.ownBlock ≠ some g) (hB : w.heap.size ≤ B) (hC : w.heap.size ≤ C) (hr : w.heap.size ≤ r) (hW : Below w.heap.size w W) :
    PostQb x b w (.returned (.tuple #[.agg #[.bool x.1.1, u, d], .bool b])) (((W.setCell ⟨r, 0, none⟩ (.bool x.1.1)).setCell ⟨r, 1, none⟩ u).setCell ⟨r, 2, none⟩ d) := by
  have hn1 := Lib.ownBlock_ne o hb (by decide)
  have hn2 := Lib.ownBlock_ne p hb (by decide)
  have hc : Chg [r] W (((W.setCell ⟨r, 0, none⟩ (.bool x.1.1)).setCell ⟨r, 1, none⟩ u).setCell ⟨r, 2, none⟩ d) := (((Chg.refl _ _).setCell (by simp) _).setCell (by simp) _).setCell (by simp) _
  have hz := hc.size
  refine ⟨_, partsB u d, rfl, (partsQ_at o p hap).chg hc (fun i hi hm => ?_), fun i hi => ?_, below_set3 hW hr⟩
  · simp at hm
    subst hm
    rcases List.mem_append.1 hi with hi | hi
    · exact hn1 (by simpa using hi)
    · exact hn2 (by simpa using hi)
  · rcases List.mem_append.1 hi with hi | hi
    · have := own_lt o (g := i) (by simpa using hi)
      omega
    · have := own_lt p (g := i) (by simpa using hi)
      omega
theorem ownQ_zero (w : World) : OwnQ (.agg #[.bool false, .slice none 0 0, .slice none 0 0]) zeroQ w := ⟨_, _, rfl, World.ownsRow_nil _ _ _ _, World.ownsRow_nil _ _ _ _, fun g hg => by cases hg⟩
theorem newQb_zero {w W : World} (b : Bool) (hW : Below w.heap.size w W) : PostQb zeroQ b w (.returned (.tuple #[.agg #[.bool false, .slice none 0 0, .slice none 0 0], .bool b])) W :=
  ⟨_, [], rfl, ⟨ownQ_zero _, (fun g hg => by cases hg), fun w' _ => ownQ_zero _⟩, (fun g hg => by cases hg), hW⟩
theorem div_toNat (a b : Nat) : ((a : Int) / (b : Int)).toNat = a / b := by rw [← Int.natCast_ediv]; exact Int.toNat_natCast _
end Go.Proofs.YtbfolegllhpkjaaGreatDoor

namespace Go.Proofs.YtbfolegllhpkjaaGreatDoor
open Go.RowKit

def topN (q : QI) : Nat := (nval q.1.2).toNat
structure Parts (q : QI) : Prop where
  okn : okS q.1 = true
  okd : natOkB q.2 = true
  n50 : q.1.2.length ≤ 18
  d50 : q.2.length ≤ 18
  n : q.1.2 = limbs (topN q)
  d : q.2 = limbs (denQ q)
  nlt : (topN q : Int) < bp 18
  dlt : (denQ q : Int) < bp 18
  pos : 0 < denQ q
  top : numQ q = if q.1.1 = true then -(topN q : Int) else topN q
theorem parts_of {q : QI} (h : okQ q = true) : Parts q := by
  obtain ⟨h1, h2, h3, h4, h5, h6⟩ := okQ_parts h
  have p1 := okS_parts h1
  have n1 := nval_ok p1.1
  have n2 := nval_ok h2
  have l1 := nval_lt _ (natOk_parts p1.1).1
  have l2 := nval_lt _ (natOk_parts h2).1
  have m1 := bp_mono h5
  have m2 := bp_mono h4
  refine ⟨h1, h2, h5, h4, natOk_limbs p1.1, natOk_limbs h2, by unfold topN; omega, by unfold denQ; omega, denQ_pos h, ?_⟩
  unfold numQ valS topN
  split <;> omega
theorem prod_lt {X Y : Nat} (hx : (X : Int) < bp 18) (hy : (Y : Int) < bp 18) : ((X * Y : Nat) : Int) < bp 36 := by
  have e : bp 36 = bp 18 * bp 18 := bp_add 18 18
  have p := bp_pos 18
  rw [e, Int.natCast_mul]
  rcases Nat.eq_zero_or_pos Y with h | h
  · subst h
    have := Int.mul_pos p p
    simpa using this
  · have h1 : (X : Int) * Y < bp 18 * Y := Int.mul_lt_mul_of_pos_right hx (by omega)
    have h2 : bp 18 * (Y : Int) ≤ bp 18 * bp 18 := Int.mul_le_mul_of_nonneg_left (by omega) (by omega)
    omega
theorem prod_len {X Y : Nat} (hx : (X : Int) < bp 18) (hy : (Y : Int) < bp 18) : (limbs (X * Y)).length ≤ 36 := limbs_length_le _ 36 (prod_lt hx hy)
theorem mul_toNat {a b : List Int} (ha : natOkB a = true) (hb : natOkB b = true) : (nval a * nval b).toNat = (nval a).toNat * (nval b).toNat := by
  have n1 := nval_ok ha
  have n2 := nval_ok hb
  rw [Int.toNat_mul n1 n2]
theorem bp37 : bp 36 + bp 36 ≤ bp 37 := by
  have e : bp 37 = 1000000000 * bp 36 := rfl
  have p := bp_pos 36
  omega
/-- a cross product with its sign -/
theorem cross_ofZ {n : Bool} {X Y : Nat} : mkS n (limbs (X * Y)) = ofZ (if n = true then -((X * Y : Nat) : Int) else ((X * Y : Nat) : Int)) ∧ okS (mkS n (limbs (X * Y))) = true ∧ (mkS n (limbs (X * Y))).2.length ≤ 50 := by
  rw [mkS_limbs]
  exact ⟨rfl, ofZ_ok _, ofZ_len _⟩
theorem cross_val {n : Bool} {X Y : Nat} (hx : (X : Int) < bp 18) (hy : (Y : Int) < bp 18) : valS (mkS n (limbs (X * Y))) = (if n = true then -(X : Int) else X) * Y := by
  have h := limbs_length_le _ 36 (prod_lt hx hy)
  rw [mkS_limbs, ofZ_val]
  · split
    · rw [Int.natCast_mul, Int.neg_mul]
    · rw [Int.natCast_mul]
  · rw [show (if n = true then -((X * Y : Nat) : Int) else ((X * Y : Nat) : Int)).natAbs = X * Y by split <;> omega]
    omega
theorem abs_lt {z : Int} {m : Nat} {b : Int} (h : z.natAbs = m) (hb : (m : Int) < b) : -b < z ∧ z < b := by omega
theorem cross_lt {n : Bool} {X Y : Nat} (hx : (X : Int) < bp 18) (hy : (Y : Int) < bp 18) : -(bp 36) < (if n = true then -(X : Int) else X) * Y ∧ (if n = true then -(X : Int) else X) * Y < bp 36 := by
  have h := prod_lt hx hy
  refine abs_lt (m := X * Y) ?_ h
  split
  · rw [Int.neg_mul, Int.natAbs_neg, ← Int.natCast_mul]; omega
  · rw [← Int.natCast_mul]; omega
/-- the sum of two cross products -/
theorem sum_ofZ {z : Int} (h1 : -(bp 37) < z) (h2 : z < bp 37) : ofZ z = (decide (z < 0), limbs z.natAbs) ∧ (limbs z.natAbs).length ≤ 37 := by
  have hl := limbs_length_le z.natAbs 37 (by omega)
  unfold ofZ
  rw [if_pos (by omega)]
  exact ⟨rfl, hl⟩
theorem lowQ_sz (n : Bool) (a b : Nat) : szQ (lowQ n a b).1 ≤ 1048576 := by
  unfold lowQ
  split
  · rename_i h
    unfold szQ szS szI
    simp only
    have : (mkS n (limbs (a / Nat.gcd a b))).2.length ≤ 50 := by rw [mkS_limbs]; exact ofZ_len _
    omega
  · decide
theorem zeroQ_sz : szQ zeroQ ≤ 1048576 := by decide
/-- a result that lies in its cells at block r: a new fraction and a bool with it -/
theorem newQb_at {r B : Nat} {S : List Nat} {c0 c1 c2 : Value} {x : QI} {b : Bool} {w W : World} (o : At S (OwnQ (.agg #[c0, c1, c2]) x) W) (l : Within S B W.heap.size) (hrB : r < B) (hr : w.heap.size ≤ r) (hW : Below w.heap.size w W) :
    PostQb x b w (.returned (.tuple #[.agg #[c0, c1, c2], .bool b])) (((W.setCell ⟨r, 0, none⟩ c0).setCell ⟨r, 1, none⟩ c1).setCell ⟨r, 2, none⟩ c2) := by
  have hc : Chg [r] W (((W.setCell ⟨r, 0, none⟩ c0).setCell ⟨r, 1, none⟩ c1).setCell ⟨r, 2, none⟩ c2) := (((Chg.refl _ _).setCell (by simp) _).setCell (by simp) _).setCell (by simp) _
  have hz := hc.size
  exact ⟨_, S, rfl, o.chg hc (fun i hi hm => by have := l i hi; simp at hm; omega), fun i hi => by have := l i hi; omega, below_set3 hW hr⟩
theorem Chg.setNew {T : List Nat} {w w1 : World} {p : Addr} (h : Chg T w w1) (hp : w.heap.size ≤ p.block) (u : Value) : Chg T w (w1.setCell p u) :=
  ⟨h.os, h.tape, h.output, by simpa [World.setCell] using h.size, fun i hi hn => (Below.heap_setCell _ _ _ _ (by omega)).trans (h.block i hi hn)⟩
theorem below_of_chg {w w1 : World} (h : Chg [] w w1) : Below w.heap.size w w1 := ⟨h.os, h.tape, h.output, h.size, fun i hi => h.block i hi (by simp)⟩
theorem makeX_any (n : Bool) (v : Value) (X : Nat) (A : SI) (w : World) (hl : (limbs X).length ≤ 50) (hA : mkS n (limbs X) = A) (ho : OwnI v (limbs X) w) : Calls Tryz.prog 84 #[.bool n, v] w (NewV (fun u => OwnS u A) w) := by
  subst hA
  have h := l04Make_any n v (limbs X) 0 w (by omega) ho
  rw [trim_ok] at h
  exact h.mono fun _ _ h => h.newV
end Go.Proofs.YtbfolegllhpkjaaGreatDoor

namespace Go.Proofs.YtbfolegllhpkjaaGreatDoor
open Go.RowKit

theorem Cur.below {w w' : World} {g : Nat} {v : Value} {n : Nat} (h : Cur w g v n) (hb : Below w.heap.size w w') : Cur w' g v n := by
  have hlt := h.lt
  obtain ⟨i, k, h1, h2, h3, h4, h5⟩ := h
  exact ⟨i, k, h1, h2, h3, h4, (hb.block g hlt).trans h5⟩
theorem Cur.put {w : World} {g r : Nat} {v : Value} {n j : Nat} {u : Value} (h : Cur w g v n) (hne : g ≠ r) : Cur (w.setCell ⟨r, j, none⟩ u) g v n := by
  obtain ⟨i, k, h1, h2, h3, h4, h5⟩ := h
  exact ⟨i, k, h1, h2, h3, h4, (Below.heap_setCell _ _ _ _ hne).trans h5⟩
theorem Chg.belowNext {T : List Nat} {w w1 w2 : World} (h : Chg T w w1) (hb : Below w1.heap.size w1 w2) : Chg T w w2 := h.trans (Chg.of_below hb)
theorem l01Once_any (m : Int) (g lo hi : Nat) (v : Value) (bs : List Nat) (w : World) (hm : 0 < m) (hm2 : m ≤ 2147483648) (hb : ∀ b ∈ bs, b < 256) (hn : bs.length ≤ 1048576) (hc : Cur w g v bs.length) (hr : Row w lo hi v (bytesV bs)) (hg : hi ≤ g) :
    Calls Tryz.prog 81 #[.pointer (some ⟨g, 0, none⟩), .int .i64 m] w fun e w' => ∃ b : Bool, e = .returned (.bool b) ∧ Cur w' g v bs.length ∧ w.grownBy w' (some g) := by
  have HB := Lib.hid hb
  clear hb
  go_enter Tryz.func81, Tryz.ntmps81
  go_wp2_with fail
  refine (l01Below_any m g lo hi v bs _ hm hm2 HB.out hn hc hr hg).mono ?_
  rintro e w1 ⟨x, _, _, rfl, hc1, hg1⟩
  go_wp2
  go_ret
  exact ⟨_, rfl, hc1, hg1⟩
/-- what a drawn signed number is -/
def DrawSPost (g : Nat) (v : Value) (n : Nat) (w : World) (e : Ending) (w' : World) : Prop :=
  ∃ (u : Value) (x : SI), e = .returned (.agg #[.bool x.1, u]) ∧ okS x = true ∧ x.2.length ≤ 2 ∧ w'.ownsRow w.heap.size 3 1 u x.2.length (intsV x.2) ∧ Cur w' g v n ∧ Chg [g] w w'
theorem drawS_ret {r g n : Nat} {u c0 c1 v : Value} {x : SI} {w W : World} {B : Nat} (hb : BoxAt r #[c0, c1] 25 W) (o : W.ownsRow B 3 1 u x.2.length (intsV x.2)) (hB : w.heap.size ≤ B) (hr : w.heap.size ≤ r) (hg : g < w.heap.size) (ok : okS x = true) (hl : x.2.length ≤ 2) (hc : Cur W g v n) (hW : Chg [g] w W) :
    DrawSPost g v n w (.returned (.agg #[.bool x.1, u])) ((W.setCell ⟨r, 0, none⟩ (.bool x.1)).setCell ⟨r, 1, none⟩ u) := by
  have hne := Lib.ownBlock_ne o hb (by decide)
  refine ⟨u, x, rfl, ok, hl, own_low (own_stays o fun i hi => ?_) hB, (hc.put (by omega)).put (by omega), (hW.setNew (p := ⟨r, 0, none⟩) hr _).setNew (p := ⟨r, 1, none⟩) hr _⟩
  have : i ≠ r := fun e => hne (by rw [hi, e])
  exact (Below.heap_setCell _ _ _ _ this).trans (Below.heap_setCell _ _ _ _ this)
theorem ofZ_small {z : Int} (h0 : -1000 ≤ z) (h1 : z ≤ 1000) : (ofZ z).2.length ≤ 2 := by
  unfold ofZ
  have h := limbs_length_le z.natAbs 1 (by show (z.natAbs : Int) < 1000000000 * 1; omega)
  split
  · exact Nat.le_trans h (by decide)
  · exact Nat.zero_le _
theorem mk_small {n : Bool} {xs : List Int} (ok : natOkB xs = true) (hl : xs.length ≤ 2) : okS (mkS n (trimL xs)) = true ∧ (mkS n (trimL xs)).2.length ≤ 2 := by
  rw [natOk_trim ok]
  have e : mkS n xs = (n && decide (0 < xs.length), xs) := by unfold mkS; rw [capL_short (by omega)]
  rw [e]
  refine ⟨?_, hl⟩
  unfold okS
  rw [ok]
  cases n with
  | false => rfl
  | true => by_cases h : 0 < xs.length <;> simp [h]
set_option maxHeartbeats 1000000 in
set_option maxRecDepth 100000 in
theorem l04Draw_any (g lo hi : Nat) (v : Value) (bs : List Nat) (w : World) (hb : ∀ b ∈ bs, b < 256) (hn : bs.length ≤ 1048576) (hc : Cur w g v bs.length) (hr : Row w lo hi v (bytesV bs)) (hg : hi ≤ g) :
    Calls Tryz.prog 48 #[.pointer (some ⟨g, 0, none⟩), .int .i64 2] w (DrawSPost g v bs.length w) := by
  have HB := Lib.hid hb
  have hgl := hc.lt
  clear hb
  have hbb : Below w.heap.size w (w.alloc (.cells #[.bool false, .slice none 0 0] 25)) := below_al (Below.refl _ _) _
  have kr := box_new w #[.bool false, .slice none 0 0] 25
  obtain ⟨W0, hW0⟩ : ∃ W0, W0 = w.alloc (.cells #[.bool false, .slice none 0 0] 25) := ⟨_, rfl⟩
  rw [← hW0] at hbb kr
  have HW := Lib.hid hW0
  have hc0 := hc.below hbb
  have hr0 := hr.below hbb (by omega)
  have hk0 : Chg [g] w W0 := Chg.of_below hbb
  have hz0 := hbb.size
  clear hW0 hc hr
  go_enter Tryz.func48, Tryz.ntmps48
  go_wp2_with fail
  rw [← HW.out]
  refine (l01Once_any 3 g lo hi v bs _ (by omega) (by omega) HB.out hn hc0 hr0 hg).mono ?_
  rintro e w1 ⟨b, rfl, hc1, hg1⟩
  have hr1 := hr0.far hg1 hg
  have hk1 := hk0.trans (Chg.of_cur hg1)
  have kr1 := kr.chg (Chg.of_cur hg1) (fun i hi hm => by simp at hi hm; omega)
  clear hc0 hr0 hk0 kr hg1
  cases b with
  | true =>
    go_wp2_with fail
    refine (l01Below_any 2001 g lo hi v bs _ (by omega) (by omega) HB.out hn hc1 hr1 hg).mono ?_
    rintro e w2 ⟨x, hx0, hx1, rfl, hc2, hg2⟩
    have hk2 := hk1.trans (Chg.of_cur hg2)
    have kr2 := kr1.chg (Chg.of_cur hg2) (fun i hi hm => by simp at hi hm; omega)
    clear hc1 hr1 hk1 kr1 hg2
    go_wp2_with fail
    refine (specIntOf_any (x - 1000) _ (by omega) (by omega)).mono ?_
    rintro e w3 ⟨u3, rfl, o3, b3⟩
    have HZ := Lib.hid (show okS (ofZ (x - 1000)) = true ∧ (ofZ (x - 1000)).2.length ≤ 2 from ⟨ofZ_ok _, ofZ_small (by omega) (by omega)⟩)
    generalize ofZ (x - 1000) = z at *
    obtain ⟨A3, c3, rfl⟩ := own_len o3
    have kr3 := kr2.below b3
    have hc3 := hc2.below b3
    have hk3 := hk2.belowNext b3
    have cz0 := kr3.here.cell 0 _ rfl
    have cz1 := kr3.here.cell 1 _ rfl
    have fz0 := Lib.frozen_of_heap kr3.here 0
    have fz1 := Lib.frozen_of_heap kr3.here 1
    have HO := Lib.hid o3
    have HK := Lib.hid kr3
    have HC := Lib.hid hc3
    have HG := Lib.hid hk3
    have hz2 := hk2.size
    clear o3 kr3 hc3 hk3 kr2 hc2 hk2 b3
    go_wp2
    refine bodyPost_ret (v := .agg #[.bool _, .slice A3 _ c3]) (by simp [results, Tryz.results48, go_sem, cz0, cz1]; exact ⟨rfl, rfl⟩) rfl ?_
    exact drawS_ret HK.out.here HO.out hz2 (Nat.le_refl _) hgl HZ.out.1 HZ.out.2 HC.out HG.out
  | false =>
    go_wp2_with fail
    refine (l01Once_any 2 g lo hi v bs _ (by omega) (by omega) HB.out hn hc1 hr1 hg).mono ?_
    rintro e w2 ⟨b2, rfl, hc2, hg2⟩
    have hr2 := hr1.far hg2 hg
    have hk2 := hk1.trans (Chg.of_cur hg2)
    have kr2 := kr1.chg (Chg.of_cur hg2) (fun i hi hm => by simp at hi hm; omega)
    clear hc1 hr1 hk1 kr1 hg2
    go_wp2_with fail
    refine (l02Nat_any 2 g lo hi v bs _ (by omega) HB.out hn hc2 hr2 hg).mono ?_
    rintro e w3 ⟨u3, xs, rfl, okx, hlx, o3, hc3, hg3⟩
    have hk3 := hk2.trans hg3
    have kr3 := kr2.chg hg3 (fun i hi hm => by simp at hi hm; omega)
    have HZ := Lib.hid (mk_small (n := b2) okx hlx)
    have hz2 := hk2.size
    clear hc2 hr2 hk2 kr2 hg3 okx
    go_wp2_with fail
    refine (l04Make_any b2 u3 xs _ _ (by omega) o3).mono ?_
    rintro e w4 ⟨u4, rfl, o4, b4⟩
    generalize mkS b2 (trimL xs) = z at *
    obtain ⟨A4, c4, rfl⟩ := own_len o4
    have kr4 := kr3.below b4
    have hc4 := hc3.below b4
    have hk4 := hk3.belowNext b4
    have hz3 := hk3.size
    have cz0 := kr4.here.cell 0 _ rfl
    have cz1 := kr4.here.cell 1 _ rfl
    have fz0 := Lib.frozen_of_heap kr4.here 0
    have fz1 := Lib.frozen_of_heap kr4.here 1
    have HO := Lib.hid o4
    have HK := Lib.hid kr4
    have HC := Lib.hid hc4
    have HG := Lib.hid hk4
    clear o4 kr4 hc4 hk4 kr3 hc3 hk3 b4 o3
    go_wp2
    refine bodyPost_ret (v := .agg #[.bool _, .slice A4 _ c4]) (by simp [results, Tryz.results48, go_sem, cz0, cz1]; exact ⟨rfl, rfl⟩) rfl ?_
    exact drawS_ret HK.out.here HO.out hz3 (Nat.le_refl _) hgl HZ.out.1 HZ.out.2 HC.out HG.out
end Go.Proofs.YtbfolegllhpkjaaGreatDoor

namespace Go.Proofs.YtbfolegllhpkjaaGreatDoor
open Go.RowKit

def modeB (m : Int) : Bool := decide (0 ≤ m ∧ m ≤ 6)
/-- the name of a mode -/
def nameB (m : Int) : ByteArray :=
  if m = 0 then ⟨#[100, 111, 119, 110]⟩ else if m = 1 then ⟨#[117, 112]⟩ else if m = 2 then ⟨#[102, 108, 111, 111, 114]⟩ else if m = 3 then ⟨#[99, 101, 105, 108]⟩
  else if m = 4 then ⟨#[104, 97, 108, 102, 100, 111, 119, 110]⟩ else if m = 5 then ⟨#[104, 97, 108, 102, 117, 112]⟩ else if m = 6 then ⟨#[104, 97, 108, 102, 101, 118, 101, 110]⟩ else ⟨#[]⟩
/-- the mode of a name, looked for in n modes from m on -/
def modeFrom : Nat → Int → ByteArray → Int × Bool
  | 0, _, _ => (0, false)
  | n + 1, m, s => if nameB m = s then (m, true) else modeFrom n (m + 1) s
def modeOf (s : ByteArray) : Int × Bool := modeFrom 7 0 s
theorem modeB_cases {m : Int} (h : modeB m = true) : m = 0 ∨ m = 1 ∨ m = 2 ∨ m = 3 ∨ m = 4 ∨ m = 5 ∨ m = 6 := by
  have := of_decide_eq_true h
  omega
theorem modeB_false {m : Int} (h : ¬ modeB m = true) : nameB m = ⟨#[]⟩ ∧ ¬ (0 ≤ m ∧ m ≤ 6) := by
  have h' : ¬ (0 ≤ m ∧ m ≤ 6) := fun e => h (decide_eq_true e)
  refine ⟨?_, h'⟩
  unfold nameB
  rw [if_neg (by omega), if_neg (by omega), if_neg (by omega), if_neg (by omega), if_neg (by omega), if_neg (by omega), if_neg (by omega)]
theorem modeFrom_end (s : ByteArray) (m : Int) : modeFrom 0 m s = (0, false) := rfl
theorem modeFrom_hit {n : Nat} {m : Int} {s : ByteArray} (h : nameB m = s) : modeFrom (n + 1) m s = (m, true) := if_pos h
theorem modeFrom_miss {n : Nat} {m : Int} {s : ByteArray} (h : ¬ nameB m = s) : modeFrom (n + 1) m s = modeFrom n (m + 1) s := if_neg h
end Go.Proofs.YtbfolegllhpkjaaGreatDoor

namespace Go.Proofs.YtbfolegllhpkjaaGreatDoor
open Go.RowKit

/-- is the size rounded up: by the sign, the whole part, what is left over, the denominator and the mode -/
def awayB (neg : Bool) (Q R D : Nat) (m : Int) : Bool :=
  if m = 0 then false else if m = 1 then true else if m = 2 then neg else if m = 3 then !neg else if m = 4 then decide (D < 2 * R) else if m = 5 then decide (D ≤ 2 * R)
  else decide (D < 2 * R) || (decide (2 * R = D) && decide (Q % 2 = 1))
def roundN (neg : Bool) (A D : Nat) (m : Int) : Nat := A / D + if A % D ≠ 0 ∧ awayB neg (A / D) (A % D) D m = true then 1 else 0
/-- a right fraction, rounded -/
def roundS (r : QI) (m : Int) : SI := mkS r.1.1 (limbs (roundN r.1.1 (topN r) (denQ r) m))
/-- what RatRound answers -/
def roundR (r : QI) (m : Int) : SI × Bool := if okQ r = true ∧ modeB m = true then (roundS r m, true) else (zeroS, false)
def wholeB (r : QI) : Bool := okQ r && decide (denQ r = 1)
def halfB (r : QI) : Bool := okQ r && decide (denQ r = 2)
/-- what RatRest answers: the fraction of the rounded number, the remainder -/
def restB (r : QI) (m : Int) : Bool := (roundR r m).2 && (makeQ (roundR r m).1 (ofZ 1)).2 && (subQ r (makeQ (roundR r m).1 (ofZ 1)).1).2
def restS (r : QI) (m : Int) : SI := if restB r m = true then (roundR r m).1 else zeroS
def restQ (r : QI) (m : Int) : QI := if restB r m = true then (subQ r (makeQ (roundR r m).1 (ofZ 1)).1).1 else zeroQ
/-- what RoundTo answers -/
def stepB (x : SI) (n m : Int) : Bool := okS x && decide (x.2.length ≤ 18) && decide (1 ≤ n ∧ n ≤ 1000000) && modeB m
def stepS (x : SI) (n m : Int) : SI := if stepB x n m = true then mulS (roundS (makeQ x (ofZ n)).1 m) (ofZ n) else zeroS
theorem roundN_le (neg : Bool) (A D : Nat) (m : Int) : roundN neg A D m ≤ A / D + 1 := by unfold roundN; split <;> omega
theorem roundN_lt {r : QI} (h : Parts r) (m : Int) : (roundN r.1.1 (topN r) (denQ r) m : Int) ≤ bp 18 := by
  have h1 := roundN_le r.1.1 (topN r) (denQ r) m
  have h2 : topN r / denQ r ≤ topN r := Nat.div_le_self ..
  have h3 := h.nlt
  omega
theorem bp_step (k : Nat) : bp k < bp (k + 1) := by
  have p := bp_pos k
  have e : bp (k + 1) = 1000000000 * bp k := rfl
  omega
theorem round_len {r : QI} (h : Parts r) (m : Int) : (limbs (roundN r.1.1 (topN r) (denQ r) m)).length ≤ 19 := limbs_length_le _ 19 (by have := roundN_lt h m; have h2 : bp 18 < bp 19 := bp_step 18; omega)
theorem roundS_ok (r : QI) (m : Int) : okS (roundS r m) = true := by unfold roundS; rw [mkS_limbs]; exact ofZ_ok _
theorem roundS_len (r : QI) (m : Int) : (roundS r m).2.length ≤ 50 := by unfold roundS; rw [mkS_limbs]; exact ofZ_len _
theorem roundR_sz (r : QI) (m : Int) : szS (roundR r m).1 ≤ 1048576 := by
  unfold roundR
  split
  · have := roundS_len r m; unfold szS szI; simp only; omega
  · decide
/-- twice the rest, against the denominator -/
theorem twice_cmp (R D : Nat) : (0 < cmpI ((R : Int) + R + 0) D ↔ D < 2 * R) ∧ (0 ≤ cmpI ((R : Int) + R + 0) D ↔ D ≤ 2 * R) ∧ (cmpI ((R : Int) + R + 0) D = 0 ↔ 2 * R = D) := by
  unfold cmpI
  split
  · omega
  · split <;> omega
theorem lastD_any {l : List Int} (h : l ≠ []) (a b : Int) : l.getLastD a = l.getLastD b := by
  cases l with
  | nil => exact absurd rfl h
  | cons x r => rfl
theorem last_tail {x : Int} {r : List Int} (h : (x :: r).getLastD 1 ≠ 0) : r.getLastD 1 ≠ 0 := by
  by_cases hr : r = []
  · subst hr; decide
  · rw [List.getLastD_cons, lastD_any hr x 1] at h; exact h
theorem last_head {x : Int} (h : [x].getLastD 1 ≠ 0) : x ≠ 0 := h
theorem last_cons {s : Int} {r : List Int} (h : r.getLastD 1 ≠ 0) (h0 : r = [] → s ≠ 0) : (s :: r).getLastD 1 ≠ 0 := by
  by_cases hr : r = []
  · subst hr; exact h0 rfl
  · rw [List.getLastD_cons, lastD_any hr s 1]; exact h
theorem addL_nil {a b : List Int} {c : Int} (h : addL a b c = []) : a = [] ∧ b = [] ∧ ¬ 0 < c := by
  cases a with
  | nil =>
    cases b with
    | nil =>
      refine ⟨rfl, rfl, fun hc => ?_⟩
      simp only [addL, if_pos hc] at h
      cases h
    | cons y r => simp only [addL] at h; cases h
  | cons x r =>
    cases b with
    | nil => simp only [addL] at h; cases h
    | cons y q => simp only [addL] at h; cases h
/-- a sum of trimmed limbs is trimmed -/
theorem addL_last (a b : List Int) (c : Int) (ha : DigN a) (hb : DigN b) (h0 : 0 ≤ c) (h1 : c ≤ 1) (la : a.getLastD 1 ≠ 0) (lb : b.getLastD 1 ≠ 0) : (addL a b c).getLastD 1 ≠ 0 := by
  induction a, b, c using addL.induct with
  | case1 c hc => simp only [addL, if_pos hc]; show c ≠ 0; omega
  | case2 c hc => simp only [addL, if_neg hc]; decide
  | case3 c x a ih =>
    have hx := ha.head
    simp only [addL]
    refine last_cons (ih ha.tail hb (by omega) (by omega) (last_tail la) lb) fun e => ?_
    obtain ⟨rfl, _, hc⟩ := addL_nil e
    have := last_head la
    omega
  | case4 c y b ih =>
    have hy := hb.head
    simp only [addL]
    refine last_cons (ih ha hb.tail (by omega) (by omega) la (last_tail lb)) fun e => ?_
    obtain ⟨_, rfl, hc⟩ := addL_nil e
    have := last_head lb
    omega
  | case5 c x a y b ih =>
    have hx := ha.head
    have hy := hb.head
    simp only [addL]
    refine last_cons (ih ha.tail hb.tail (by omega) (by omega) (last_tail la) (last_tail lb)) fun e => ?_
    obtain ⟨rfl, rfl, hc⟩ := addL_nil e
    have := last_head la
    omega
end Go.Proofs.YtbfolegllhpkjaaGreatDoor

namespace Go.Proofs.YtbfolegllhpkjaaGreatDoor
open Go.RowKit

theorem cmpI_self (X : Int) : cmpI X X = 0 := by unfold cmpI; rw [if_neg (by omega), if_neg (by omega)]
theorem cmpI_turn (X Y : Int) : cmpI X Y = -cmpI Y X := by unfold cmpI; split <;> split <;> (try split) <;> (try split) <;> omega
end Go.Proofs.YtbfolegllhpkjaaGreatDoor

namespace Go.Proofs.YtbfolegllhpkjaaGreatDoor
open Go.RowKit

/-- the rational number that a fraction stands for -/
def ratV (q : QI) : Rat := (numQ q : Rat) / ((denQ q : Int) : Rat)
/-- a right fraction whose parts are short -/
structure Bd (q : QI) (m : Nat) : Prop where
  ok : okQ q = true
  num : ((numQ q).natAbs : Int) < bp m
  den : (denQ q : Int) < bp m
theorem Bd.pos {q : QI} {m : Nat} (h : Bd q m) : (0 : Int) < (denQ q : Int) := by have := denQ_pos h.ok; omega
theorem Bd.mono {q : QI} {m n : Nat} (h : Bd q m) (hm : m ≤ n) : Bd q n := ⟨h.ok, Int.lt_of_lt_of_le h.num (bp_mono hm), Int.lt_of_lt_of_le h.den (bp_mono hm)⟩
theorem rat_ne {d : Int} (h : 0 < d) : (d : Rat) ≠ 0 := by
  have : d ≠ 0 := by omega
  exact_mod_cast this
theorem ratV_of {q : QI} {N D : Int} (hq : okQ q = true) (hD : 0 < D) (h : numQ q * D = N * denQ q) : ratV q = (N : Rat) / (D : Rat) := by
  have h1 : (0 : Int) < (denQ q : Int) := by have := denQ_pos hq; omega
  have n1 := rat_ne h1
  have n2 := rat_ne hD
  have h' : (numQ q : Rat) * (D : Rat) = (N : Rat) * ((denQ q : Int) : Rat) := by exact_mod_cast h
  unfold ratV
  grind
theorem low_is (n : Bool) (a b : Nat) (hb : b ≠ 0) (ha : (a : Int) < bp 18) (hb2 : (b : Int) < bp 18) :
    (lowQ n a b).2 = true ∧ numQ (lowQ n a b).1 * b = (if n = true then -(a : Int) else a) * denQ (lowQ n a b).1 ∧ (numQ (lowQ n a b).1).natAbs ≤ a ∧ denQ (lowQ n a b).1 ≤ b := by
  have hg : 0 < Nat.gcd a b := Nat.gcd_pos_of_pos_right _ (by omega)
  obtain ⟨a', ea⟩ := Nat.gcd_dvd_left a b
  obtain ⟨b', eb⟩ := Nat.gcd_dvd_right a b
  have qa : a / Nat.gcd a b = a' := by rw [Nat.div_eq_of_eq_mul_right hg ea]
  have qb : b / Nat.gcd a b = b' := by rw [Nat.div_eq_of_eq_mul_right hg eb]
  have la : a' ≤ a := by rw [← qa]; exact Nat.div_le_self ..
  have lb : b' ≤ b := by rw [← qb]; exact Nat.div_le_self ..
  have l1 : (limbs a').length ≤ 18 := limbs_length_le _ 18 (by omega)
  have l2 : (limbs b').length ≤ 18 := limbs_length_le _ 18 (by omega)
  have e : lowQ n a b = ((mkS n (limbs a'), limbs b'), true) := by
    unfold lowQ
    rw [qa, qb, if_pos ⟨hb, l1, l2⟩]
  have ev : numQ ((mkS n (limbs a'), limbs b') : QI) = if n = true then -(a' : Int) else a' := by
    show valS (mkS n (limbs a')) = _
    rw [mkS_limbs, ofZ_val]
    rw [show (if n = true then -(a' : Int) else a').natAbs = a' by split <;> omega]
    omega
  have ed : denQ ((mkS n (limbs a'), limbs b') : QI) = b' := by
    show (nval (limbs b')).toNat = b'
    rw [limbs_val, Int.toNat_natCast]
  rw [e]
  refine ⟨rfl, ?_, ?_, ?_⟩
  · rw [ev, ed]
    have key : (a' : Int) * b = a * b' := by
      have h1 : a' * b = a * b' := by
        have e1 : a * b' = (Nat.gcd a b * a') * b' := by rw [← ea]
        have e2 : a' * b = a' * (Nat.gcd a b * b') := by rw [← eb]
        rw [e1, e2]
        ac_rfl
      exact_mod_cast h1
    split
    · rw [Int.neg_mul, Int.neg_mul, key]
    · exact key
  · rw [ev]; split <;> omega
  · rw [ed]; exact lb
theorem low_bd {n : Bool} {a b m : Nat} (hb : b ≠ 0) (hm : m ≤ 18) (ha : (a : Int) < bp m) (hb2 : (b : Int) < bp m) :
    (lowQ n a b).2 = true ∧ Bd (lowQ n a b).1 m ∧ ratV (lowQ n a b).1 = ((if n = true then -(a : Int) else a : Int) : Rat) / ((b : Int) : Rat) := by
  have h18 := bp_mono hm
  obtain ⟨h1, h2, h3, h4⟩ := low_is n a b hb (by omega) (by omega)
  have ok := lowQ_ok n a b h1
  exact ⟨h1, ⟨ok, by omega, by omega⟩, ratV_of ok (by omega) h2⟩
theorem pair_eq {Q : QI × Bool} (h : Q.2 = true) : Q = (Q.1, true) := by rw [← h]
theorem abs_top {q : QI} (h : okQ q = true) : topN q = (numQ q).natAbs := by
  have := (parts_of h).top
  rw [this]
  split <;> omega
theorem mul_lt {a b : Nat} {i j : Nat} (ha : (a : Int) < bp i) (hb : (b : Int) < bp j) : ((a * b : Nat) : Int) < bp (i + j) := by
  rw [bp_add, Int.natCast_mul]
  have p := bp_pos i
  have q := bp_pos j
  have h1 : (a : Int) * b ≤ (bp i - 1) * b := Int.mul_le_mul_of_nonneg_right (by omega) (by omega)
  have h2 : (bp i - 1) * (b : Int) ≤ (bp i - 1) * (bp j - 1) := Int.mul_le_mul_of_nonneg_left (by omega) (by omega)
  have h3 : (bp i - 1) * (bp j - 1) = bp i * bp j - bp i - bp j + 1 := by grind
  omega
theorem bp_next (m : Nat) : bp m + bp m ≤ bp (m + 1) := by
  have e : bp (m + 1) = 1000000000 * bp m := rfl
  have p := bp_pos m
  omega
theorem add_bd {r s : QI} {i k : Nat} (hr : Bd r i) (hs : Bd s k) (h : i + k + 1 ≤ 18) : (addQ r s).2 = true ∧ Bd (addQ r s).1 (i + k + 1) ∧ ratV (addQ r s).1 = ratV r + ratV s := by
  have e : addQ r s = lowQ (decide (numQ r * denQ s + numQ s * denQ r < 0)) (numQ r * denQ s + numQ s * denQ r).natAbs (denQ r * denQ s) := by unfold addQ; rw [if_pos ⟨hr.ok, hs.ok⟩]
  have p1 := hr.pos
  have p2 := hs.pos
  have b1 := mul_lt hr.num hs.den
  have b2 := mul_lt hs.num hr.den
  rw [Nat.add_comm k i] at b2
  have b3 := mul_lt hr.den hs.den
  have n1 := bp_next (i + k)
  have p0 := bp_pos (i + k)
  have ba : ((numQ r * denQ s + numQ s * denQ r).natAbs : Int) < bp (i + k + 1) := by
    have h1 : (numQ r * (denQ s : Int)).natAbs = (numQ r).natAbs * denQ s := by rw [Int.natAbs_mul, Int.natAbs_natCast]
    have h2 : (numQ s * (denQ r : Int)).natAbs = (numQ s).natAbs * denQ r := by rw [Int.natAbs_mul, Int.natAbs_natCast]
    omega
  have hd : denQ r * denQ s ≠ 0 := Nat.mul_ne_zero (by omega) (by omega)
  obtain ⟨h1, h2, h3⟩ := low_bd (n := decide (numQ r * denQ s + numQ s * denQ r < 0)) hd h ba (by omega)
  rw [e]
  refine ⟨h1, h2, h3.trans ?_⟩
  have hz : (if decide (numQ r * (denQ s : Int) + numQ s * (denQ r : Int) < 0) = true then -((numQ r * (denQ s : Int) + numQ s * (denQ r : Int)).natAbs : Int) else ((numQ r * (denQ s : Int) + numQ s * (denQ r : Int)).natAbs : Int)) = numQ r * (denQ s : Int) + numQ s * (denQ r : Int) := by
    generalize numQ r * (denQ s : Int) + numQ s * (denQ r : Int) = z
    by_cases hz : z < 0
    · rw [decide_eq_true hz, if_pos rfl]; omega
    · rw [decide_eq_false hz, if_neg (by decide)]; omega
  rw [hz]
  have n1 := rat_ne p1
  have n2 := rat_ne p2
  unfold ratV
  rw [Int.natCast_mul]
  simp only [Rat.intCast_add, Rat.intCast_mul]
  grind
theorem sign_mul (x y : Bool) (X Y : Int) : (if (x != y) = true then -(X * Y) else X * Y) = (if x = true then -X else X) * (if y = true then -Y else Y) := by
  cases x <;> cases y <;> simp [Int.neg_mul, Int.mul_neg]
theorem mul_bd {r s : QI} {i k : Nat} (hr : Bd r i) (hs : Bd s k) (h : i + k ≤ 18) : (mulQ r s).2 = true ∧ Bd (mulQ r s).1 (i + k) ∧ ratV (mulQ r s).1 = ratV r * ratV s := by
  have e : mulQ r s = lowQ (r.1.1 != s.1.1) (topN r * topN s) (denQ r * denQ s) := by unfold mulQ topN; rw [if_pos ⟨hr.ok, hs.ok⟩]
  have p1 := hr.pos
  have p2 := hs.pos
  have t1 := abs_top hr.ok
  have t2 := abs_top hs.ok
  have b1 := mul_lt hr.num hs.num
  rw [← t1, ← t2] at b1
  have hd : denQ r * denQ s ≠ 0 := Nat.mul_ne_zero (by omega) (by omega)
  obtain ⟨h1, h2, h3⟩ := low_bd (n := r.1.1 != s.1.1) hd h b1 (mul_lt hr.den hs.den)
  rw [e]
  refine ⟨h1, h2, h3.trans ?_⟩
  have n1 := rat_ne p1
  have n2 := rat_ne p2
  rw [Int.natCast_mul, sign_mul, ← (parts_of hr.ok).top, ← (parts_of hs.ok).top, Int.natCast_mul]
  unfold ratV
  simp only [Rat.intCast_mul]
  grind
theorem div_bd {r s : QI} {i k : Nat} (hr : Bd r i) (hs : Bd s k) (h : i + k ≤ 18) (h0 : numQ s ≠ 0) : (divQ r s).2 = true ∧ Bd (divQ r s).1 (i + k) ∧ ratV (divQ r s).1 * ratV s = ratV r := by
  have e : divQ r s = lowQ (r.1.1 != s.1.1) (topN r * denQ s) (denQ r * topN s) := by unfold divQ topN; rw [if_pos ⟨hr.ok, hs.ok⟩]
  have p1 := hr.pos
  have p2 := hs.pos
  have t1 := abs_top hr.ok
  have t2 := abs_top hs.ok
  have b1 := mul_lt hr.num hs.den
  rw [← t1] at b1
  have b2 := mul_lt hr.den hs.num
  rw [← t2] at b2
  have hd : denQ r * topN s ≠ 0 := Nat.mul_ne_zero (by omega) (by omega)
  obtain ⟨h1, h2, h3⟩ := low_bd (n := r.1.1 != s.1.1) hd h b1 b2
  rw [e]
  refine ⟨h1, h2, ?_⟩
  have n1 := rat_ne p1
  have n2 := rat_ne p2
  have n3 := rat_ne (show (0 : Int) < (topN s : Int) by omega)
  have q1 := (parts_of hr.ok).top
  have q2 := (parts_of hs.ok).top
  rw [h3, Int.natCast_mul, Int.natCast_mul]
  unfold ratV
  rw [q1, q2]
  generalize r.1.1 = x
  generalize s.1.1 = y
  cases x <;> cases y <;> simp only [bne_self_eq_false, Bool.false_bne, Bool.true_bne, Bool.not_false, if_true, if_false, Bool.false_eq_true, Rat.intCast_mul, Rat.intCast_neg] <;> grind
theorem negS_mag {x : SI} (h : okS x = true) : (negS x).2 = x.2 := by
  have hp := okS_parts h
  have hl := (natOk_parts hp.1).2.1
  have ha := valS_abs x hp.1
  have hx := natOk_limbs hp.1
  unfold negS
  rw [if_pos h]
  have e : (-valS x).natAbs = (nval x.2).toNat := by rw [Int.natAbs_neg]; omega
  unfold ofZ
  rw [e, ← hx, if_pos hl]
theorem neg_bd {s : QI} {k : Nat} (hs : Bd s k) : (negQ s).2 = true ∧ Bd (negQ s).1 k ∧ ratV (negQ s).1 = - ratV s := by
  have hp := okQ_parts hs.ok
  have hm := negS_mag hp.1
  have e : negQ s = ((negS s.1, s.2), true) := by unfold negQ; rw [if_pos hs.ok]
  have ev : numQ ((negS s.1, s.2) : QI) = - numQ s := by
    have hl : (limbs (-valS s.1).natAbs).length ≤ 50 := by
      have := (natOk_parts (okS_parts hp.1).1).2.1
      have hx := natOk_limbs (okS_parts hp.1).1
      have ha := valS_abs s.1 (okS_parts hp.1).1
      rw [Int.natAbs_neg, show (valS s.1).natAbs = (nval s.1.2).toNat by omega, ← hx]
      exact this
    show valS (negS s.1) = - valS s.1
    unfold negS
    rw [if_pos hp.1, ofZ_val hl]
  have hok : okQ ((negS s.1, s.2) : QI) = true := by
    have hn : okS (negS s.1) = true := by unfold negS; rw [if_pos hp.1]; exact ofZ_ok _
    unfold okQ
    simp only
    rw [hn, hp.2.1, hm]
    simp only [Bool.true_and, decide_eq_true_eq]
    exact ⟨hp.2.2.1, hp.2.2.2.1, hp.2.2.2.2.1, hp.2.2.2.2.2⟩
  rw [e]
  refine ⟨rfl, ⟨hok, by rw [ev, Int.natAbs_neg]; exact hs.num, hs.den⟩, ?_⟩
  unfold ratV
  rw [ev, show denQ ((negS s.1, s.2) : QI) = denQ s from rfl]
  simp only [Rat.intCast_neg]
  grind
theorem sub_bd {r s : QI} {i k : Nat} (hr : Bd r i) (hs : Bd s k) (h : i + k + 1 ≤ 18) : (subQ r s).2 = true ∧ Bd (subQ r s).1 (i + k + 1) ∧ ratV (subQ r s).1 = ratV r - ratV s := by
  obtain ⟨n1, n2, n3⟩ := neg_bd hs
  have e : subQ r s = addQ r (negQ s).1 := by unfold subQ; rw [if_pos n1]
  obtain ⟨a1, a2, a3⟩ := add_bd hr n2 h
  rw [e]
  exact ⟨a1, a2, by rw [a3, n3]; grind⟩
theorem cross_of {r s : QI} {i k : Nat} (hr : Bd r i) (hs : Bd s k) (h : ratV r = ratV s) : numQ r * denQ s = numQ s * denQ r := by
  have n1 := rat_ne hr.pos
  have n2 := rat_ne hs.pos
  unfold ratV at h
  have h' : (numQ r : Rat) * ((denQ s : Int) : Rat) = (numQ s : Rat) * ((denQ r : Int) : Rat) := by grind
  exact_mod_cast h'
theorem cmp_same {r s : QI} {i k : Nat} (hr : Bd r i) (hs : Bd s k) (h : ratV r = ratV s) : cmpQ r s = 0 := by
  unfold cmpQ
  rw [if_pos ⟨hr.ok, hs.ok⟩, cross_of hr hs h, cmpI_self]
theorem cmpQ_turn {r s : QI} {i k : Nat} (hr : Bd r i) (hs : Bd s k) : cmpQ r s = -cmpQ s r := by
  unfold cmpQ
  rw [if_pos ⟨hr.ok, hs.ok⟩, if_pos ⟨hs.ok, hr.ok⟩, cmpI_turn]
theorem oneQ_parts : numQ oneQ = 0 ∧ denQ oneQ = 1 := ⟨rfl, rfl⟩
theorem signQ_of {r : QI} {i : Nat} (hr : Bd r i) : cmpQ r oneQ = cmpI (numQ r) 0 := by
  unfold cmpQ
  rw [if_pos ⟨hr.ok, oneQ_ok⟩, oneQ_parts.1, oneQ_parts.2, Int.zero_mul]
  simp
theorem cmpI_facts (X Y : Int) : (cmpI X Y = 0 ↔ X = Y) ∧ (cmpI X Y ≤ 0 ↔ X ≤ Y) ∧ (0 ≤ cmpI X Y ↔ Y ≤ X) := by
  unfold cmpI
  split
  · omega
  · split <;> omega
theorem order_of {r s x : QI} {i k m : Nat} (hr : Bd r i) (hs : Bd s k) (hx : Bd x m) (h : ratV x = ratV s - ratV r) : (cmpQ r s ≤ 0) ↔ (0 ≤ cmpQ x oneQ) := by
  rw [signQ_of hx, (cmpI_facts _ _).2.2]
  have e : cmpQ r s = cmpI (numQ r * denQ s) (numQ s * denQ r) := by unfold cmpQ; rw [if_pos ⟨hr.ok, hs.ok⟩]
  rw [e, (cmpI_facts _ _).2.1]
  have p1 := hr.pos
  have p2 := hs.pos
  have p3 := hx.pos
  have n1 := rat_ne p1
  have n2 := rat_ne p2
  have n3 := rat_ne p3
  have key : numQ x * ((denQ s : Int) * (denQ r : Int)) = (numQ s * (denQ r : Int) - numQ r * (denQ s : Int)) * (denQ x : Int) := by
    unfold ratV at h
    have h' : (numQ x : Rat) * (((denQ s : Int) : Rat) * ((denQ r : Int) : Rat)) = ((numQ s : Rat) * ((denQ r : Int) : Rat) - (numQ r : Rat) * ((denQ s : Int) : Rat)) * ((denQ x : Int) : Rat) := by grind
    exact_mod_cast h'
  have pd : 0 < (denQ s : Int) * (denQ r : Int) := Int.mul_pos p2 p1
  generalize numQ s * (denQ r : Int) = B at *
  generalize numQ r * (denQ s : Int) = A at *
  constructor
  · intro hh
    have h1 : 0 ≤ (B - A) * (denQ x : Int) := Int.mul_nonneg (by omega) (by omega)
    rw [← key] at h1
    exact Int.nonneg_of_mul_nonneg_left h1 pd
  · intro hh
    have h1 : 0 ≤ numQ x * ((denQ s : Int) * (denQ r : Int)) := Int.mul_nonneg hh (by omega)
    rw [key] at h1
    have := Int.nonneg_of_mul_nonneg_left h1 p3
    omega
theorem bd_len {q : QI} {m : Nat} (h : Bd q m) : q.1.2.length ≤ m ∧ q.2.length ≤ m := by
  have p := parts_of h.ok
  have t := abs_top h.ok
  have h1 := h.num
  constructor
  · rw [p.n]; exact limbs_length_le _ m (by omega)
  · rw [p.d]; exact limbs_length_le _ m h.den
theorem bd_sz {q : QI} {m : Nat} (h : Bd q m) (hm : m ≤ 18) : szQ q ≤ 1048576 := by
  have := bd_len h
  unfold szQ szS szI
  omega
end Go.Proofs.YtbfolegllhpkjaaGreatDoor

namespace Go.Proofs.YtbfolegllhpkjaaGreatDoor
open Go.RowKit

/-- a decimal number as data: its number, its scale -/
abbrev DI : Type := SI × Int
def zeroD : DI := (zeroS, 0)
/-- DecOk -/
def okD (d : DI) : Bool := okS d.1 && (decide (d.1.2.length ≤ 6) && decide (0 ≤ d.2 ∧ d.2 ≤ 30))
def numD (d : DI) : Int := valS d.1
structure PartsD (d : DI) : Prop where
  ok : okS d.1 = true
  len : d.1.2.length ≤ 6
  lo : 0 ≤ d.2
  hi : d.2 ≤ 30
theorem partsD {d : DI} (h : okD d = true) : PartsD d := by
  unfold okD at h
  rw [Bool.and_eq_true, Bool.and_eq_true, decide_eq_true_eq, decide_eq_true_eq] at h
  exact ⟨h.1, h.2.1, h.2.2.1, h.2.2.2⟩
theorem okD_of {d : DI} (h : PartsD d) : okD d = true := by
  unfold okD
  rw [h.ok, decide_eq_true h.len, decide_eq_true (show 0 ≤ d.2 ∧ d.2 ≤ 30 from ⟨h.lo, h.hi⟩)]
  rfl
/-- a number with a scale, where that is right -/
def decD (x : SI) (k : Int) : DI × Bool := if okD (x, k) = true then ((x, k), true) else (zeroD, false)
/-- the same over an integer -/
def decZ (z k : Int) : DI × Bool := if (z.natAbs : Int) < bp 6 ∧ 0 ≤ k ∧ k ≤ 30 then ((ofZ z, k), true) else (zeroD, false)
/-- ten to the power k -/
def pt (k : Int) : Int := 10 ^ k.toNat
def tenS (k : Int) : SI := (false, tenN k)
def topD (d e : DI) : Int := if d.2 < e.2 then e.2 else d.2
def liftD (d : DI) (s : Int) : Int := numD d * pt (s - d.2)
def addD (d e : DI) : DI × Bool := if okD d = true ∧ okD e = true then decZ (liftD d (topD d e) + liftD e (topD d e)) (topD d e) else (zeroD, false)
def subD (d e : DI) : DI × Bool := if okD d = true ∧ okD e = true then decZ (liftD d (topD d e) - liftD e (topD d e)) (topD d e) else (zeroD, false)
def mulD (d e : DI) : DI × Bool := if okD d = true ∧ okD e = true then decZ (numD d * numD e) (d.2 + e.2) else (zeroD, false)
def cmpD (d e : DI) : Int := if okD d = true ∧ okD e = true then cmpI (liftD d (topD d e)) (liftD e (topD d e)) else 0
def atD (d : DI) (k : Int) : DI × Bool :=
  if okD d = true ∧ 0 ≤ k ∧ k ≤ 30 then
    (if d.2 ≤ k then decZ (liftD d k) k
     else if numD d % pt (d.2 - k) = 0 then decZ (numD d / pt (d.2 - k)) k else (zeroD, false))
  else (zeroD, false)

theorem pt_pos (k : Int) : 0 < pt k := ten_pos k.toNat
theorem pt_nat (k : Int) : ((10 ^ k.toNat : Nat) : Int) = pt k := by unfold pt; rw [Int.natCast_pow]; rfl
theorem bp_four : (10 : Int) ^ 30 < bp 4 := by decide
theorem pt_mono {j k : Int} (h : j ≤ k) : pt j ≤ pt k := by
  rw [← pt_nat, ← pt_nat]
  exact Int.ofNat_le.2 (Nat.pow_le_pow_right (by omega) (by omega))
theorem pt_lt {k : Int} (h : k ≤ 30) : pt k < bp 4 := by
  have h1 := pt_mono h
  have h2 : pt 30 < bp 4 := bp_four
  omega
theorem tenN_pt {k : Int} (h0 : 0 ≤ k) (h1 : k ≤ 30) : tenN k = limbs (10 ^ k.toNat) ∧ (tenN k).length ≤ 4 ∧ natOkB (tenN k) = true ∧ nval (tenN k) = pt k := by
  have e : tenN k = limbs (10 ^ k.toNat) := by unfold tenN; rw [if_pos ⟨h0, by omega⟩]
  have hl : (limbs (10 ^ k.toNat)).length ≤ 4 := limbs_length_le _ 4 (by rw [pt_nat]; exact pt_lt h1)
  refine ⟨e, by rw [e]; exact hl, by rw [e]; exact limbs_okL _ (by omega), ?_⟩
  rw [e, limbs_val, pt_nat]
theorem tenS_ok {k : Int} (h0 : 0 ≤ k) (h1 : k ≤ 30) : okS (tenS k) = true ∧ valS (tenS k) = pt k ∧ (tenS k).2.length ≤ 4 := by
  obtain ⟨_, h2, h3, h4⟩ := tenN_pt h0 h1
  exact ⟨by unfold okS tenS; rw [h3]; rfl, h4, h2⟩
/-- a right number of few limbs is small -/
theorem few_lt {x : SI} {k : Nat} (ok : okS x = true) (hl : x.2.length ≤ k) : ((valS x).natAbs : Int) < bp k := by
  have hp := okS_parts ok
  have ha := valS_abs x hp.1
  have h3 := nval_lt x.2 (natOk_parts hp.1).1
  have h4 := nval_ok hp.1
  have h5 : bp x.2.length ≤ bp k := bp_mono hl
  omega
theorem few_len {z : Int} {k : Nat} (hk : k ≤ 50) : (ofZ z).2.length ≤ k ∧ (limbs z.natAbs).length ≤ 50 ↔ (z.natAbs : Int) < bp k := by
  constructor
  · intro ⟨h, hl⟩
    have := few_lt (ofZ_ok z) h
    rw [ofZ_val hl] at this
    exact this
  · intro h
    have hl := limbs_length_le z.natAbs k h
    refine ⟨?_, by omega⟩
    unfold ofZ
    rw [if_pos (by omega)]
    exact hl
theorem ofZ_few {z : Int} {k : Nat} (h : (z.natAbs : Int) < bp k) (hk : k ≤ 50) : okS (ofZ z) = true ∧ valS (ofZ z) = z := ⟨ofZ_ok z, ofZ_val (by have := limbs_length_le z.natAbs k h; omega)⟩
theorem decD_ofZ {z : Int} (k : Int) (h : (z.natAbs : Int) < bp 50) : decD (ofZ z) k = decZ z k := by
  have hl := limbs_length_le z.natAbs 50 h
  unfold decD decZ
  by_cases hc : (z.natAbs : Int) < bp 6 ∧ 0 ≤ k ∧ k ≤ 30
  · rw [if_pos hc, if_pos (okD_of ⟨ofZ_ok z, ((few_len (by omega)).2 hc.1).1, hc.2.1, hc.2.2⟩)]
  · rw [if_neg hc, if_neg]
    intro ho
    have p := partsD ho
    exact hc ⟨(few_len (by omega)).1 ⟨p.len, hl⟩, p.lo, p.hi⟩
theorem decD_ok (x : SI) (k : Int) (h : (decD x k).2 = true) : okD (decD x k).1 = true := by
  unfold decD at h ⊢
  split
  · assumption
  · rename_i hn
    rw [if_neg hn] at h
    exact absurd h (by decide)
theorem decZ_yes {z k : Int} (h : (z.natAbs : Int) < bp 6) (h0 : 0 ≤ k) (h1 : k ≤ 30) : decZ z k = ((ofZ z, k), true) ∧ okD (ofZ z, k) = true ∧ numD (ofZ z, k) = z := by
  refine ⟨by unfold decZ; rw [if_pos ⟨h, h0, h1⟩], okD_of ⟨ofZ_ok z, ((few_len (by omega)).2 h).1, h0, h1⟩, (ofZ_few h (by omega)).2⟩
theorem decZ_parts {z k : Int} (h : (decZ z k).2 = true) : (z.natAbs : Int) < bp 6 ∧ 0 ≤ k ∧ k ≤ 30 := by
  unfold decZ at h
  by_cases hc : (z.natAbs : Int) < bp 6 ∧ 0 ≤ k ∧ k ≤ 30
  · exact hc
  · rw [if_neg hc] at h
    exact absurd h (by decide)
theorem num_lt {d : DI} (h : PartsD d) : ((numD d).natAbs : Int) < bp 6 := few_lt h.ok h.len
theorem absZ_mul (a b : Int) : ((a * b).natAbs : Int) = (a.natAbs : Int) * b.natAbs := by rw [Int.natAbs_mul]; exact Int.natCast_mul _ _
theorem mulZ_lt {a b : Int} {j k : Nat} (ha : (a.natAbs : Int) < bp j) (hb : (b.natAbs : Int) < bp k) : ((a * b).natAbs : Int) < bp (j + k) := by
  rw [absZ_mul, bp_add]
  have hk := bp_pos k
  exact Int.lt_of_le_of_lt (Int.mul_le_mul_of_nonneg_left (Int.le_of_lt hb) (by omega)) (Int.mul_lt_mul_of_pos_right ha hk)
theorem pt_abs {k : Int} (h : k ≤ 30) : ((pt k).natAbs : Int) < bp 4 := by
  have h1 := pt_pos k
  have h2 := pt_lt h
  omega
theorem lift_lt {d : DI} {s : Int} (h : PartsD d) (hs : s ≤ 30) : ((liftD d s).natAbs : Int) < bp 10 := by
  have hm := mulZ_lt (j := 6) (k := 4) (num_lt h) (pt_abs (k := s - d.2) (by have := h.lo; omega))
  exact hm
/-- what a multiplication by a power of ten gives -/
theorem mul_ten {d : DI} {j : Int} (h : PartsD d) (h0 : 0 ≤ j) (h1 : j ≤ 30) : mulS d.1 (tenS j) = ofZ (numD d * pt j) ∧ okS (mulS d.1 (tenS j)) = true ∧ valS (mulS d.1 (tenS j)) = numD d * pt j := by
  have t := tenS_ok h0 h1
  have e : mulS d.1 (tenS j) = ofZ (numD d * pt j) := by unfold mulS; rw [if_pos ⟨h.ok, t.1⟩, t.2.1]; rfl
  have s := ofZ_few (mulZ_lt (j := 6) (k := 4) (num_lt h) (pt_abs h1)) (by omega)
  exact ⟨e, by rw [e]; exact s.1, by rw [e]; exact s.2⟩
theorem topD_le {d e : DI} (hd : PartsD d) (he : PartsD e) : d.2 ≤ topD d e ∧ e.2 ≤ topD d e ∧ 0 ≤ topD d e ∧ topD d e ≤ 30 := by
  have := hd.lo; have := hd.hi; have := he.lo; have := he.hi
  unfold topD
  split <;> omega
theorem bp_ten_one : bp 10 + bp 10 ≤ bp 11 := by decide
theorem sum_few {x y : Int} (hx : (x.natAbs : Int) < bp 10) (hy : (y.natAbs : Int) < bp 10) : ((x + y).natAbs : Int) < bp 50 ∧ ((x - y).natAbs : Int) < bp 50 := by
  have h1 := bp_ten_one
  have h2 : bp 11 ≤ bp 50 := bp_mono (by omega)
  omega
def szD (q : DI) : Int := szS q.1
theorem decZ_sz (z k : Int) : szD (decZ z k).1 ≤ 1048576 := by
  unfold decZ
  split
  · have := ofZ_len z
    unfold szD szS szI
    simp only
    omega
  · decide
theorem decD_sz (x : SI) (k : Int) : szD (decD x k).1 ≤ 1048576 := by
  unfold decD
  split
  · rename_i h
    have := (partsD h).len
    unfold szD szS szI
    simp only at this ⊢
    omega
  · decide
theorem addD_is {d e : DI} (hd : okD d = true) (he : okD e = true) : decD (addS (mulS d.1 (tenS (topD d e - d.2))) (mulS e.1 (tenS (topD d e - e.2)))) (topD d e) = addD d e := by
  have pd := partsD hd
  have pe := partsD he
  have t := topD_le pd pe
  have md := mul_ten pd (j := topD d e - d.2) (by omega) (by have := pd.lo; omega)
  have me := mul_ten pe (j := topD d e - e.2) (by omega) (by have := pe.lo; omega)
  unfold addS
  rw [if_pos ⟨md.2.1, me.2.1⟩, md.2.2, me.2.2]
  unfold addD
  rw [if_pos ⟨hd, he⟩]
  exact decD_ofZ _ (sum_few (lift_lt pd t.2.2.2) (lift_lt pe t.2.2.2)).1
theorem subD_is {d e : DI} (hd : okD d = true) (he : okD e = true) : decD (subS (mulS d.1 (tenS (topD d e - d.2))) (mulS e.1 (tenS (topD d e - e.2)))) (topD d e) = subD d e := by
  have pd := partsD hd
  have pe := partsD he
  have t := topD_le pd pe
  have md := mul_ten pd (j := topD d e - d.2) (by omega) (by have := pd.lo; omega)
  have me := mul_ten pe (j := topD d e - e.2) (by omega) (by have := pe.lo; omega)
  unfold subS
  rw [if_pos ⟨md.2.1, me.2.1⟩, md.2.2, me.2.2]
  unfold subD
  rw [if_pos ⟨hd, he⟩]
  exact decD_ofZ _ (sum_few (lift_lt pd t.2.2.2) (lift_lt pe t.2.2.2)).2
theorem cmpD_is {d e : DI} (hd : okD d = true) (he : okD e = true) : cmpS (mulS d.1 (tenS (topD d e - d.2))) (mulS e.1 (tenS (topD d e - e.2))) = cmpD d e := by
  have pd := partsD hd
  have pe := partsD he
  have t := topD_le pd pe
  have md := mul_ten pd (j := topD d e - d.2) (by omega) (by have := pd.lo; omega)
  have me := mul_ten pe (j := topD d e - e.2) (by omega) (by have := pe.lo; omega)
  unfold cmpS
  rw [if_pos ⟨md.2.1, me.2.1⟩, md.2.2, me.2.2]
  unfold cmpD
  rw [if_pos ⟨hd, he⟩]
  rfl
theorem mulD_is {d e : DI} (hd : okD d = true) (he : okD e = true) : decD (mulS d.1 e.1) (d.2 + e.2) = mulD d e := by
  have pd := partsD hd
  have pe := partsD he
  unfold mulS
  rw [if_pos ⟨pd.ok, pe.ok⟩]
  unfold mulD
  rw [if_pos ⟨hd, he⟩]
  have h := mulZ_lt (j := 6) (k := 6) (num_lt pd) (num_lt pe)
  have h2 : bp (6 + 6) ≤ bp 50 := bp_mono (by omega)
  exact decD_ofZ _ (by show ((numD d * numD e).natAbs : Int) < _; omega)
/-- the same number at another scale, upwards -/
theorem atD_up {d : DI} {k : Int} (hd : okD d = true) (h0 : 0 ≤ k) (h1 : k ≤ 30) (hk : d.2 ≤ k) : decD (mulS d.1 (tenS (k - d.2))) k = atD d k := by
  have pd := partsD hd
  have m := mul_ten pd (j := k - d.2) (by omega) (by have := pd.lo; omega)
  have h2 : bp 10 ≤ bp 50 := bp_mono (by omega)
  unfold atD
  rw [if_pos ⟨hd, h0, h1⟩, if_pos hk, m.1]
  exact decD_ofZ _ (by have := lift_lt pd h1; show ((liftD d k).natAbs : Int) < _; omega)
theorem trunc_of {n : Bool} {A : Nat} {P : Int} (hd : (A : Int) % P = 0) : (if n = true then -(A : Int) else A) % P = 0 ∧ (if n = true then -(A : Int) else A) / P = if n = true then -((A : Int) / P) else (A : Int) / P := by
  cases n
  · exact ⟨by simpa using hd, by simp⟩
  · have hdv : P ∣ (A : Int) := Int.dvd_of_emod_eq_zero hd
    simp only [if_true]
    exact ⟨Int.emod_eq_zero_of_dvd (Int.dvd_neg.2 hdv), Int.neg_ediv_of_dvd hdv⟩
/-- and downwards: cut off what is too much -/
theorem atD_down {d : DI} {k : Int} (hd : okD d = true) (h0 : 0 ≤ k) (hk : k < d.2) :
    (0 < (cutN d.1.2 (d.2 - k)).2.length → atD d k = (zeroD, false)) ∧ (¬ 0 < (cutN d.1.2 (d.2 - k)).2.length → decD (d.1.1, (cutN d.1.2 (d.2 - k)).1) k = atD d k) := by
  have pd := partsD hd
  have hi := pd.hi
  have t := tenN_pt (k := d.2 - k) (by omega) (by omega)
  have hp := okS_parts pd.ok
  have hn := nval_ok hp.1
  have hP := pt_pos (d.2 - k)
  have ht : 0 < (tenN (d.2 - k)).length := by
    rcases Nat.eq_zero_or_pos (tenN (d.2 - k)).length with h | h
    · have e : tenN (d.2 - k) = [] := List.eq_nil_of_length_eq_zero h
      have := t.2.2.2
      rw [e] at this
      simp only [nval] at this
      omega
    · exact h
  have hc : cutN d.1.2 (d.2 - k) = (limbs (nval d.1.2 / pt (d.2 - k)).toNat, limbs (nval d.1.2 % pt (d.2 - k)).toNat) := by
    unfold cutN
    rw [if_pos (by omega)]
    unfold divN
    rw [if_pos ⟨hp.1, t.2.2.1, ht⟩, t.2.2.2]
  rw [hc]
  show (0 < (limbs (nval d.1.2 % pt (d.2 - k)).toNat).length → _) ∧ (¬ 0 < (limbs (nval d.1.2 % pt (d.2 - k)).toNat).length → _)
  have hm0 := Int.emod_nonneg (nval d.1.2) (Int.ne_of_gt hP)
  have hv : numD d = if d.1.1 = true then -((nval d.1.2).toNat : Int) else (nval d.1.2).toNat := by
    unfold numD valS
    rw [Int.toNat_of_nonneg hn]
  have hA : ((nval d.1.2).toNat : Int) = nval d.1.2 := Int.toNat_of_nonneg hn
  have key : (limbs (nval d.1.2 % pt (d.2 - k)).toNat).length = 0 ↔ numD d % pt (d.2 - k) = 0 := by
    rw [limbs_zero_iff]
    constructor
    · intro h
      rw [hv]
      exact (trunc_of (by rw [hA]; omega)).1
    · intro h
      have : nval d.1.2 % pt (d.2 - k) = 0 := by
        rw [hv] at h
        split at h
        · rw [hA] at h
          exact Int.emod_eq_zero_of_dvd (Int.dvd_neg.1 (Int.dvd_of_emod_eq_zero h))
        · rw [hA] at h
          exact h
      omega
  unfold atD
  rw [if_pos ⟨hd, h0, by omega⟩, if_neg (by omega)]
  refine ⟨fun h => by rw [if_neg (fun e => by rw [← key] at e; omega)], fun h => ?_⟩
  have hz : numD d % pt (d.2 - k) = 0 := key.1 (by omega)
  rw [if_pos hz]
  have hr : nval d.1.2 % pt (d.2 - k) = 0 := by
    have := (limbs_zero_iff _).1 (key.2 hz)
    omega
  have tr := trunc_of (n := d.1.1) (A := (nval d.1.2).toNat) (by rw [hA]; exact hr)
  have hq0 : 0 ≤ nval d.1.2 / pt (d.2 - k) := Int.ediv_nonneg hn (by omega)
  have hql : nval d.1.2 / pt (d.2 - k) ≤ nval d.1.2 := Int.ediv_le_self _ hn
  have hlt := num_lt pd
  have hab : ((numD d).natAbs : Int) = nval d.1.2 := by rw [hv]; split <;> omega
  have hb : (((numD d / pt (d.2 - k)).natAbs : Nat) : Int) < bp 6 := by
    rw [hv, tr.2, hA]
    split <;> omega
  have hl6 : (limbs (nval d.1.2 / pt (d.2 - k)).toNat).length ≤ 6 := limbs_length_le _ 6 (by omega)
  have he : ((d.1.1, limbs (nval d.1.2 / pt (d.2 - k)).toNat) : SI) = ofZ (numD d / pt (d.2 - k)) := by
    have e1 : mkS d.1.1 (limbs (nval d.1.2 / pt (d.2 - k)).toNat) = ofZ (numD d / pt (d.2 - k)) := by
      rw [mkS_limbs, hv, tr.2, hA, Int.toNat_of_nonneg hq0]
    rw [← e1]
    unfold mkS capL
    rw [if_neg (by omega)]
    refine Prod.ext ?_ rfl
    show d.1.1 = (d.1.1 && decide (0 < (limbs (nval d.1.2 / pt (d.2 - k)).toNat).length))
    cases hs : d.1.1 with
    | false => rfl
    | true =>
      have h3 : 0 < nval d.1.2 := okS_pos pd.ok (hp.2 hs)
      have h4 : nval d.1.2 / pt (d.2 - k) ≠ 0 := fun e => by
        have := Int.mul_ediv_add_emod (nval d.1.2) (pt (d.2 - k))
        rw [e, hr] at this
        omega
      have h5 : 0 < (limbs (nval d.1.2 / pt (d.2 - k)).toNat).length := by
        rcases Nat.eq_zero_or_pos (limbs (nval d.1.2 / pt (d.2 - k)).toNat).length with h | h
        · have := (limbs_zero_iff _).1 h
          omega
        · exact h
      rw [decide_eq_true h5]
      rfl
  rw [he]
  exact decD_ofZ _ (by have : bp 6 ≤ bp 50 := bp_mono (by omega); omega)

/-! ### the smallest scale -/
theorem decZ_num {d : DI} (h : okD d = true) : decZ (numD d) d.2 = (d, true) := by
  have p := partsD h
  rw [(decZ_yes (num_lt p) p.lo p.hi).1]
  show ((ofZ (valS d.1), d.2), true) = (d, true)
  rw [okS_ofZ p.ok]
theorem pt_zero : pt 0 = 1 := rfl
theorem at_self {d : DI} (h : okD d = true) : atD d d.2 = (d, true) := by
  have p := partsD h
  unfold atD liftD
  rw [if_pos ⟨h, p.lo, p.hi⟩, if_pos (Int.le_refl _), Int.sub_self, pt_zero, Int.mul_one]
  exact decZ_num h
theorem at_parts {d : DI} {k : Int} (hd : okD d = true) (h : (atD d k).2 = true) (hk : k ≤ d.2) : okD (atD d k).1 = true ∧ (atD d k).1.2 = k ∧ liftD (atD d k).1 d.2 = numD d := by
  rcases Int.lt_or_eq_of_le hk with hk | rfl
  · unfold atD at h ⊢
    split at h
    · rename_i hc
      rw [if_pos hc] 
      rw [if_neg (by omega)] at h ⊢
      split at h
      · rename_i hz
        rw [if_pos hz]
        have b := decZ_parts h
        have y := decZ_yes b.1 b.2.1 b.2.2
        rw [y.1]
        refine ⟨y.2.1, rfl, ?_⟩
        unfold liftD
        show numD (ofZ (numD d / pt (d.2 - k)), k) * pt (d.2 - k) = _
        rw [y.2.2]
        exact Int.ediv_mul_cancel (Int.dvd_of_emod_eq_zero hz)
      · exact absurd h (by decide)
    · exact absurd h (by decide)
  · rw [at_self hd]
    refine ⟨hd, rfl, ?_⟩
    unfold liftD
    rw [Int.sub_self, pt_zero, Int.mul_one]
theorem at_back {q d : DI} (hd : okD d = true) (hq : okD q = true) (hk : q.2 ≤ d.2) (h : liftD q d.2 = numD d) : atD q d.2 = (d, true) := by
  have p := partsD hd
  unfold atD
  rw [if_pos ⟨hq, p.lo, p.hi⟩, if_pos hk, h]
  exact decZ_num hd
def lowFrom (d : DI) : Nat → Int → DI
  | 0, _ => zeroD
  | n + 1, k => if (atD d k).2 = true then (atD d k).1 else lowFrom d n (k + 1)
/-- the same number with the smallest scale -/
def lowD (d : DI) : DI := lowFrom d 31 0
theorem low_hit {d : DI} {n : Nat} {k : Int} (h : (atD d k).2 = true) : lowFrom d (n + 1) k = (atD d k).1 := if_pos h
theorem low_miss {d : DI} {n : Nat} {k : Int} (h : (atD d k).2 = false) : lowFrom d (n + 1) k = lowFrom d n (k + 1) := if_neg (by rw [h]; decide)
theorem low_none (d : DI) (k : Int) : lowFrom d 0 k = zeroD := rfl
theorem low_bad {d : DI} (h : ¬ okD d = true) : ∀ (n : Nat) (k : Int), lowFrom d n k = zeroD := by
  intro n
  induction n with
  | zero => intro k; rfl
  | succ n ih => intro k; rw [low_miss (by unfold atD; rw [if_neg (fun e => h e.1)])]; exact ih _
theorem low_from {d : DI} (hd : okD d = true) : ∀ (n : Nat) (k : Int), 0 ≤ k → k ≤ d.2 → d.2 < k + n → ∃ j, k ≤ j ∧ j ≤ d.2 ∧ (atD d j).2 = true ∧ lowFrom d n k = (atD d j).1 ∧ ∀ i, k ≤ i → i < j → (atD d i).2 = false := by
  intro n
  induction n with
  | zero => intro k h0 h1 h2; omega
  | succ n ih =>
    intro k h0 h1 h2
    by_cases hc : (atD d k).2 = true
    · exact ⟨k, Int.le_refl _, h1, hc, low_hit hc, fun i h3 h4 => by omega⟩
    · have hf : (atD d k).2 = false := by simpa using hc
      have hne : k ≠ d.2 := fun e => by rw [e, at_self hd] at hc; exact hc rfl
      obtain ⟨j, j1, j2, j3, j4, j5⟩ := ih (k + 1) (by omega) (by omega) (by omega)
      exact ⟨j, by omega, j2, j3, by rw [low_miss hf]; exact j4, fun i h3 h4 => by
        rcases Int.lt_or_eq_of_le h3 with h | rfl
        · exact j5 i (by omega) h4
        · exact hf⟩
theorem low_is_at {d : DI} (hd : okD d = true) : ∃ j, 0 ≤ j ∧ j ≤ d.2 ∧ (atD d j).2 = true ∧ lowD d = (atD d j).1 ∧ ∀ i, 0 ≤ i → i < j → (atD d i).2 = false :=
  low_from hd 31 0 (Int.le_refl _) (partsD hd).lo (by have := (partsD hd).hi; omega)
theorem lowD_ok {d : DI} (hd : okD d = true) : okD (lowD d) = true ∧ (lowD d).2 ≤ d.2 ∧ liftD (lowD d) d.2 = numD d ∧ atD (lowD d) d.2 = (d, true) := by
  obtain ⟨j, _, j2, j3, j4, _⟩ := low_is_at hd
  obtain ⟨k1, k2, k3⟩ := at_parts hd j3 j2
  rw [j4]
  exact ⟨k1, by rw [k2]; exact j2, k3, at_back hd k1 (by rw [k2]; exact j2) k3⟩
theorem atD_sz (d : DI) (k : Int) : szD (atD d k).1 ≤ 1048576 := by
  unfold atD
  split
  · split
    · exact decZ_sz _ _
    · split
      · exact decZ_sz _ _
      · decide
  · decide
theorem zeroD_sz : szD zeroD ≤ 1048576 := by decide
theorem lowD_sz (d : DI) : szD (lowD d) ≤ 1048576 := by
  by_cases h : okD d = true
  · obtain ⟨j, _, _, _, j4, _⟩ := low_is_at h
    rw [j4]
    exact atD_sz d j
  · unfold lowD
    rw [low_bad h]
    exact zeroD_sz
theorem addD_sz (d e : DI) : szD (addD d e).1 ≤ 1048576 := by unfold addD; split; exact decZ_sz _ _; exact zeroD_sz
theorem subD_sz (d e : DI) : szD (subD d e).1 ≤ 1048576 := by unfold subD; split; exact decZ_sz _ _; exact zeroD_sz
theorem mulD_sz (d e : DI) : szD (mulD d e).1 ≤ 1048576 := by unfold mulD; split; exact decZ_sz _ _; exact zeroD_sz
end Go.Proofs.YtbfolegllhpkjaaGreatDoor

namespace Go.Proofs.YtbfolegllhpkjaaGreatDoor
open Go.RowKit

def ratD (d : DI) : QI := if okD d = true then (makeQ d.1 (tenS d.2)).1 else zeroQ
/-- the size that a fraction times ten to the power k is rounded to, with its sign -/
def scaledN (r : QI) (k m : Int) : Nat := roundN r.1.1 (topN r * 10 ^ k.toNat) (denQ r) m
def scaledZ (r : QI) (k m : Int) : Int := if r.1.1 = true then -(scaledN r k m : Int) else scaledN r k m
/-- what RatDec and DecDiv answer -/
def ratDecD (r : QI) (k m : Int) : DI × Bool := if okQ r = true ∧ (0 ≤ k ∧ k ≤ 30) ∧ modeB m = true then decZ (scaledZ r k m) k else (zeroD, false)
def divD (d e : DI) (k m : Int) : DI × Bool := if (divQ (ratD d) (ratD e)).2 = true then ratDecD (divQ (ratD d) (ratD e)).1 k m else (zeroD, false)

theorem rat_bad {d : DI} (h : ¬ okD d = true) : ratD d = zeroQ := by unfold ratD; rw [if_neg h]
theorem ten_bd {d : DI} (h : okD d = true) : makeQ d.1 (tenS d.2) = (ratD d, true) ∧ Bd (ratD d) 6 ∧ ratV (ratD d) = (numD d : Rat) / (pt d.2 : Rat) := by
  have p := partsD h
  have hp := okS_parts p.ok
  have t := tenS_ok p.lo p.hi
  have hn := nval_ok hp.1
  have hP := pt_pos d.2
  have e : makeQ d.1 (tenS d.2) = lowQ d.1.1 (nval d.1.2).toNat (pt d.2).toNat := by
    unfold makeQ
    rw [if_pos ⟨p.ok, t.1⟩]
    have : nval (tenS d.2).2 = pt d.2 := t.2.1
    rw [this]
    show lowQ (d.1.1 != false) _ _ = _
    cases d.1.1 <;> rfl
  have hr : ratD d = (makeQ d.1 (tenS d.2)).1 := by unfold ratD; rw [if_pos h]
  have hab := valS_abs d.1 hp.1
  have hlt := num_lt p
  have h46 : bp 4 ≤ bp 6 := bp_mono (by omega)
  have h4 := pt_lt p.hi
  unfold numD at hlt
  obtain ⟨b1, b2, b3⟩ := low_bd (n := d.1.1) (a := (nval d.1.2).toNat) (b := (pt d.2).toNat) (m := 6) (by omega) (by omega) (by omega) (by omega)
  rw [hr, e]
  refine ⟨pair_eq b1, b2, b3.trans ?_⟩
  rw [Int.toNat_of_nonneg hn, Int.toNat_of_nonneg (by omega)]
  rfl
theorem ratD_sz (d : DI) : szQ (ratD d) ≤ 1048576 := by
  unfold ratD
  split
  · unfold makeQ
    split
    · exact lowQ_sz _ _ _
    · decide
  · decide
theorem ratDecD_sz (r : QI) (k m : Int) : szD (ratDecD r k m).1 ≤ 1048576 := by unfold ratDecD; split; exact decZ_sz _ _; exact zeroD_sz
theorem divD_sz (d e : DI) (k m : Int) : szD (divD d e k m).1 ≤ 1048576 := by unfold divD; split; exact ratDecD_sz _ _ _; exact zeroD_sz
/-- what is rounded, and what comes out, is short -/
theorem scaled_lt {r : QI} (h : okQ r = true) {k : Int} (h1 : k ≤ 30) : ((topN r * 10 ^ k.toNat : Nat) : Int) < bp 22 := by
  have p := parts_of h
  have a := p.nlt
  have b := pt_lt h1
  rw [← pt_nat] at b
  exact mul_lt (i := 18) (j := 4) a b
theorem scaledN_lt {r : QI} (h : okQ r = true) {k : Int} (m : Int) (h1 : k ≤ 30) : (scaledN r k m : Int) < bp 23 := by
  have a := scaled_lt h h1
  have b := roundN_le r.1.1 (topN r * 10 ^ k.toNat) (denQ r) m
  have c : topN r * 10 ^ k.toNat / denQ r ≤ topN r * 10 ^ k.toNat := Nat.div_le_self ..
  have d : bp 22 < bp 23 := bp_step 22
  unfold scaledN
  omega
/-- the number that RatDec rounds to, with a scale -/
theorem ratDec_is {r : QI} {k m : Int} (h : okQ r = true) (h0 : 0 ≤ k) (h1 : k ≤ 30) (hm : modeB m = true) : decD (mkS r.1.1 (limbs (scaledN r k m))) k = ratDecD r k m := by
  unfold ratDecD
  rw [if_pos ⟨h, ⟨h0, h1⟩, hm⟩, mkS_limbs]
  have a := scaledN_lt h m h1
  have b : bp 23 ≤ bp 50 := bp_mono (by omega)
  refine decD_ofZ _ ?_
  split <;> omega
end Go.Proofs.YtbfolegllhpkjaaGreatDoor
