/-
  Chapter 5 of package impl: products, sums and differences.
-/
import Derived.Test.YtofehcpapdlcnaaSignImpl
import Derived.Test.YtofehcpapdlcnaaSignAdd
import Derived.Deep.DeepCutAuto
import Derived.Deep.Cut
import Derived.Deep.CutBlock
namespace Go.Proofs.Ytofehcpapdlcnaa
open Go.RowKit

theorem capL_short {xs : List Int} (h : xs.length ≤ 50) : capL xs = xs := by unfold capL; rw [if_neg (by omega)]
theorem capL_res (b : Bool) (n : Int) : mkS b (natRes n) = mkS b (limbs n.toNat) := by
  have e : capL (natRes n) = capL (limbs n.toNat) := by
    unfold natRes
    by_cases h : (limbs n.toNat).length ≤ 50
    · rw [capL_short h, capL_short h]
    · rw [show capL (limbs n.toNat) = [] by unfold capL; rw [if_pos (by omega)]]; rfl
  unfold mkS
  rw [e]
theorem natRes_short (n : Int) : (natRes n).length ≤ 50 := by
  unfold natRes capL
  split
  · simp
  · omega
theorem mulN_short (a b : List Int) : (mulN a b).length ≤ 50 := by unfold mulN; split; exact natRes_short _; simp
theorem mulS_mk {x y : SI} (okx : okS x = true) (oky : okS y = true) : mkS (x.1 != y.1) (mulN x.2 y.2) = mulS x y := by
  have px := okS_parts okx
  have py := okS_parts oky
  have h0x := nval_ok px.1
  have h0y := nval_ok py.1
  have h0 := Int.mul_nonneg h0x h0y
  unfold mulS
  rw [if_pos ⟨okx, oky⟩, mulN_ok px.1 py.1, capL_res, mkS_limbs]
  congr 1
  unfold valS
  rw [Int.toNat_of_nonneg h0]
  cases x.1 <;> cases y.1 <;> simp [Int.neg_mul, Int.mul_neg]
/-- an integer laid early into its block, which was zero -/
theorem NatX.early {n : Bool} {g : Nat} {u c0 c1 : Value} {xs : List Int} {W : World} {B0 B : Nat} (hb : BoxAt g #[c0, c1] 53 W) (o : W.ownsRow B 3 1 u xs.length (intsV xs)) (hB : B0 ≤ B) (hg : B0 ≤ g) :
    NatX (intK n) B0 g xs ((W.setCell ⟨g, 0, none⟩ u).setCell ⟨g, 1, none⟩ (.bool n)) := by
  have hne := Lib.ownBlock_ne o hb (by decide)
  have hb' : W.heap[g]? = some (.cells #[c0, c1] 53 (0, 0)) := hb
  refine ⟨hg, u, by simp [World.setCell, Array.getElem?_modify, hb'], own_low (own_stays o fun i hi => ?_) hB, hne⟩
  have : i ≠ g := fun e => hne (by rw [hi, e])
  exact (Below.heap_setCell _ _ _ _ this).trans (Below.heap_setCell _ _ _ _ this)
theorem NatX.late {n : Bool} {u : Value} {xs : List Int} {W : World} {B0 B : Nat} (o : W.ownsRow B 3 1 u xs.length (intsV xs)) (hB : B0 ≤ B) (hW : B0 ≤ W.heap.size) : NatX (intK n) B0 W.heap.size xs (W.alloc (.cells #[u, .bool n] 53)) :=
  NatX.new (K := intK n) hW (own_low o hB)

set_option maxHeartbeats 4000000 in
set_option maxRecDepth 100000 in
theorem implIntMul_any (vx vy : Value) (x y : SI) (w : World) (hlx : x.2.length ≤ 1048576) (hly : y.2.length ≤ 1048576) (hx : OwnS vx x w) (hy : OwnS vy y w) :
    Calls Try.prog 41 #[vx, vy] w (NewS (mulS x y) w) := by
  obtain ⟨ux, rfl, hox⟩ := hx
  obtain ⟨uy, rfl, hoy⟩ := hy
  obtain ⟨Ax, cx, rfl⟩ := own_len hox
  obtain ⟨Ay, cy, rfl⟩ := own_len hoy
  obtain ⟨W0, hW0⟩ : ∃ W0, W0 = ((w.alloc (.cells #[.bool x.1, .slice Ax x.2.length cx] 29)).alloc (.cells #[.bool y.1, .slice Ay y.2.length cy] 29)).alloc (.cells #[.bool false, .slice none 0 0] 29) := ⟨_, rfl⟩
  have hbb : Below w.heap.size w W0 := by rw [hW0]; exact below_al (below_al (below_al (Below.refl _ _) _) _) _
  have h3 := alloc3 w (.cells #[.bool x.1, .slice Ax x.2.length cx] 29) (.cells #[.bool y.1, .slice Ay y.2.length cy] 29) (.cells #[.bool false, .slice none 0 0] 29)
  rw [← hW0] at h3
  have kx : At [w.heap.size] (BoxAt w.heap.size #[.bool x.1, .slice Ax x.2.length cx] 29) W0 := box_at h3.1
  have ky : At [w.heap.size + 1] (BoxAt (w.heap.size + 1) #[.bool y.1, .slice Ay y.2.length cy] 29) W0 := box_at h3.2.1
  have kr : At [w.heap.size + 1 + 1] (BoxAt (w.heap.size + 1 + 1) #[.bool false, .slice none 0 0] 29) W0 := box_at h3.2.2.1
  have ox := own_below hox hbb
  have oy := own_below hoy hbb
  have rdx := (OwnS.mk (x := x) (ownI_of ox)).rd
  have HW := Lib.hid hW0
  have cx0 := kx.here.cell 0 _ rfl
  have cx1 := kx.here.cell 1 _ rfl
  clear h3 hox hoy hW0
  by_cases okx : okS x = true
  · go_enter Try.func41, Try.ntmps41
    go_wp2_with fail
    rw [← HW.out]
    refine (implIntOk_any _ x _ hlx rdx).mono ?_
    rintro e w1 ⟨rfl, b1⟩
    rw [okx]
    have bb1 := Below.next hbb b1
    replace kx := kx.below b1
    replace ky := ky.below b1
    replace kr := kr.below b1
    replace ox := own_below ox b1
    replace oy := own_below oy b1
    have cy0 := ky.here.cell 0 _ rfl
    have cy1 := ky.here.cell 1 _ rfl
    clear rdx cx0 cx1
    go_wp2_with fail
    refine (implIntOk_any _ y w1 hly (OwnS.mk (x := y) (ownI_of oy)).rd).mono ?_
    rintro e w2 ⟨rfl, b2⟩
    have bb2 := Below.next bb1 b2
    replace kx := kx.below b2
    replace ky := ky.below b2
    replace kr := kr.below b2
    replace ox := own_below ox b2
    replace oy := own_below oy b2
    clear cy0 cy1
    by_cases oky : okS y = true
    · rw [oky]
      have HV := Lib.hid (mulS_mk okx oky)
      have cx0 := kx.here.cell 0 _ rfl
      have cx1 := kx.here.cell 1 _ rfl
      have cy0 := ky.here.cell 0 _ rfl
      have cy1 := ky.here.cell 1 _ rfl
      have HOX := Lib.hid (show ∀ W, Below w2.heap.size w2 W → Row W 0 W.heap.size (.slice Ax x.2.length cx) (intsV x.2) from fun W hb => (ownI_of (own_below ox hb)).row)
      have HOY := Lib.hid (show ∀ W, Below w2.heap.size w2 W → Row W 0 W.heap.size (.slice Ay y.2.length cy) (intsV y.2) from fun W hb => (ownI_of (own_below oy hb)).row)
      have HKR := Lib.hid kr
      have hlt2 : w.heap.size + 1 + 1 < w2.heap.size := kr.lt _ (by simp)
      clear okx oky ox oy kr
      have HKX := Lib.hid kx
      have HKY := Lib.hid ky
      have HMB := Lib.hid (Lib.hid (show mkS (x.1 != y.1) (mulN x.2 y.2) = mulS x y from HV.out))
      have hml : (mulN x.2 y.2).length ≤ 50 := mulN_short x.2 y.2
      clear kx ky b1 b2 HV
      obtain ⟨n, hn, hm⟩ : ∃ n, (x.1 != y.1) = n ∧ (x.1 == y.1) = !n := ⟨_, rfl, by cases x.1 <;> cases y.1 <;> rfl⟩
      have HN := Lib.hid hn
      cases n
      all_goals
        first | rw [Bool.not_false] at hm | rw [Bool.not_true] at hm
        go_upto_region 3 with fail
        go_cut [5] (fun s wx => ∃ b, s = .pointer (some ⟨b, 0, none⟩) ∧ Hid (NatX (intK (x.1 != y.1)) w2.heap.size b (mulN x.2 y.2) wx) ∧ Below w2.heap.size w2 wx)
        case first =>
          have HB0 := Lib.hid (show Below w2.heap.size w2 w2.drew from (Below.refl _ _).drew)
          have KL := Lib.hid (show ∀ W, Below w2.heap.size w2 W → W.cell? ⟨w.heap.size, 0, none⟩ = some (.bool x.1) ∧ W.cell? ⟨w.heap.size, 1, none⟩ = some (.slice Ax x.2.length cx) ∧ W.cell? ⟨w.heap.size + 1, 0, none⟩ = some (.bool y.1) ∧ W.cell? ⟨w.heap.size + 1, 1, none⟩ = some (.slice Ay y.2.length cy) ∧ Hid (Below w2.heap.size w2 W) from
            fun W hb => ⟨(HKX.out.below hb).here.cell 0 _ rfl, (HKX.out.below hb).here.cell 1 _ rfl, (HKY.out.below hb).here.cell 0 _ rfl, (HKY.out.below hb).here.cell 1 _ rfl, Lib.hid hb⟩)
          clear cx0 cx1 cy0 cy1
          go_region_held3 (fun W => W.cell? ⟨w.heap.size, 0, none⟩ = some (.bool x.1) ∧ W.cell? ⟨w.heap.size, 1, none⟩ = some (.slice Ax x.2.length cx) ∧ W.cell? ⟨w.heap.size + 1, 0, none⟩ = some (.bool y.1) ∧ W.cell? ⟨w.heap.size + 1, 1, none⟩ = some (.slice Ay y.2.length cy) ∧ Hid (Below w2.heap.size w2 W))
            ((refine KL.out _ ?_; (first | exact HBf.out | exact HB0.out | exact below_al HBf.out _ | exact below_al HB0.out _ | exact below_set2 HBf.out HB0.out.size | fail)))
            (first
              | (go_at_call 47; (have hBB := (‹_ ∧ _ ∧ _ ∧ _ ∧ Hid (Below w2.heap.size w2 _)›).2.2.2.2); (with_reducible refine (implNatMul_any _ _ x.2 y.2 0 _ 0 _ _ hlx hly (Nat.le_refl _) (Nat.le_refl _) (HOX.out _ hBB.out) (HOY.out _ hBB.out)).mono ?_); rintro e wf ⟨uf, rfl, of, bf⟩; have HBf := Lib.hid (Below.next hBB.out bf); have HBS := Lib.hid hBB.out.size; (try have hbxf : At [w2.heap.size] (BoxAt w2.heap.size #[.slice none 0 0, .bool false] 53) wf := At.below (box_new w2.drew _ _) bf); obtain ⟨Af, cf, rfl⟩ := own_len of; (try (have cz0 := hbxf.here.cell 0 _ rfl; have cz1 := hbxf.here.cell 1 _ rfl; have fz0 := Lib.frozen_of_heap hbxf.here 0; have fz1 := Lib.frozen_of_heap hbxf.here 1)); clear hBB))
          all_goals (go_wp2_with fail; go_meet; first | exact ⟨_, rfl, Lib.hid (by rw [HN.out]; exact NatX.late of HBS.out HBf.out.size), below_al HBf.out _⟩ | exact ⟨_, rfl, Lib.hid (by rw [HN.out]; exact NatX.early hbxf.here of HBS.out (Nat.le_refl _)), below_set2 HBf.out (Nat.le_refl _)⟩)
        rename World => w3
        obtain ⟨b, rfl, HX, b3⟩ := hcut
        have bb3 := Below.next bb2 b3
        have kr3 := HKR.out.below b3
        clear cx0 cx1 cy0 cy1
        go_wp2_with fail
        refine (signed_any _ _ b _ _ (by omega) HX.out).mono ?_
        rw [HMB.out.out]
        rintro e w4 ⟨u4, rfl, o4, b4⟩
        generalize mulS x y = z at *
        obtain ⟨A4, c4, rfl⟩ := own_len o4
        have bb4 := Below.next bb3 b4
        have kr4 := kr3.below b4
        have cz0 := kr4.here.cell 0 _ rfl
        have cz1 := kr4.here.cell 1 _ rfl
        have fz0 := Lib.frozen_of_heap kr4.here 0
        have fz1 := Lib.frozen_of_heap kr4.here 1
        have HO := Lib.hid o4
        have HK := Lib.hid kr4
        clear o4 kr3 kr4 HX HMB
        go_wp2
        refine bodyPost_ret (v := .agg #[.bool _, .slice A4 _ c4]) (by simp [results, Try.results41, go_sem, cz0, cz1]; exact ⟨rfl, rfl⟩) rfl ?_
        exact newS_ret HK.out.here HO.out bb2.size (by omega) bb4
    · have oky' : okS y = false := by simpa using oky
      have HV := Lib.hid (show mulS x y = zeroS by unfold mulS; rw [if_neg (fun h => oky h.2)])
      rw [oky']
      have cz0 := kr.here.cell 0 _ rfl
      have cz1 := kr.here.cell 1 _ rfl
      have fz0 := Lib.frozen_of_heap kr.here 0
      have fz1 := Lib.frozen_of_heap kr.here 1
      clear oky kx ky kr ox oy
      go_wp2
      refine bodyPost_ret (v := .agg #[.bool false, .slice none 0 0]) (by simp [results, Try.results41, go_sem, cz0, cz1]) rfl ?_
      rw [HV.out]
      exact newS_zero (below_set2 bb2 (by omega))
  · have okx' : okS x = false := by simpa using okx
    have HV := Lib.hid (show mulS x y = zeroS by unfold mulS; rw [if_neg (fun h => okx h.1)])
    clear okx
    go_enter Try.func41, Try.ntmps41
    go_wp2_with fail
    rw [← HW.out]
    refine (implIntOk_any _ x _ hlx rdx).mono ?_
    rintro e w1 ⟨rfl, b1⟩
    rw [okx']
    have bb1 := Below.next hbb b1
    replace kr := kr.below b1
    have cz0 := kr.here.cell 0 _ rfl
    have cz1 := kr.here.cell 1 _ rfl
    have fz0 := Lib.frozen_of_heap kr.here 0
    have fz1 := Lib.frozen_of_heap kr.here 1
    clear kx ky kr rdx ox oy cx0 cx1
    go_wp2
    refine bodyPost_ret (v := .agg #[.bool false, .slice none 0 0]) (by simp [results, Try.results41, go_sem, cz0, cz1]) rfl ?_
    rw [HV.out]
    exact newS_zero (below_set2 bb1 (by omega))
end Go.Proofs.Ytofehcpapdlcnaa
