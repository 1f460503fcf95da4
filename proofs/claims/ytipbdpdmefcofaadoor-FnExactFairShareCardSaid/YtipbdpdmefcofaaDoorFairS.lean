/-
  Chapter 13 of package spec: FairShare
-/
import Derived.Test.YtipbdpdmefcofaaDoorFairWords
import Derived.Test.YtipbdpdmefcofaaDoorLow60
import Derived.Test.YtipbdpdmefcofaaDoorDivSpec
import Derived.Test.YtipbdpdmefcofaaDoorNatConv
import Derived.Test.YtipbdpdmefcofaaDoorSignSpec
namespace Go.Proofs.YtipbdpdmefcofaaDoor
open Go.RowKit

set_option maxHeartbeats 4000000 in
set_option maxRecDepth 100000 in
theorem specFairShare_any (v vw : Value) (x : SI) (ws : List Int) (i : Int) (lo hi : Nat) (w : World) (hlx : x.2.length ≤ 1048576) (hlw : ws.length ≤ 1048576) (hhi : hi ≤ w.heap.size) (h : OwnS v x w) (hr : Row w lo hi vw (intsV ws)) :
    Calls Tryd.prog 5 #[v, vw, .int .i64 i] w (PostQb (fairR x ws i).1 (fairR x ws i).2 w) := by
  have Hx := Lib.hid h
  obtain ⟨Ax, cx, rfl⟩ := ownS_form h
  have OSx := Lib.hid (show ∀ W, Below w.heap.size w W → OwnS (.agg #[.bool x.1, .slice Ax x.2.length cx]) x W from fun W hb => OwnS.below Hx.out hb)
  have OUx := Lib.hid (show ∀ W, Below w.heap.size w W → OwnI (.slice Ax x.2.length cx) x.2 W from fun W hb => ownS_open (OSx.out W hb))
  clear h Hx
  have HR0 := Lib.hid hr
  obtain ⟨Aw, cw, rfl, hA⟩ := hr
  rw [intsV_length] at HR0 ⊢
  have HRW := Lib.hid (show ∀ W, Below w.heap.size w W → Row W lo hi (.slice Aw ws.length cw) (intsV ws) from fun W hb => Row.below HR0.out hb hhi)
  have HA := Lib.hid hA
  clear hA HR0
  have bb0 : Below w.heap.size w ((w.alloc (.cells #[.bool x.1, .slice Ax x.2.length cx] 26)).alloc (.cells #[.bool false, .slice none 0 0, .slice none 0 0] 28)) := below_al (below_al (Below.refl _ _) _) _
  have kx := (box_new w #[.bool x.1, .slice Ax x.2.length cx] 26).below (below_al (Below.refl _ _) (.cells #[.bool false, .slice none 0 0, .slice none 0 0] 28))
  have ko := (box_new (w.alloc (.cells #[.bool x.1, .slice Ax x.2.length cx] 26)) #[.bool false, .slice none 0 0, .slice none 0 0] 28)
  rw [show (w.alloc (.cells #[.bool x.1, .slice Ax x.2.length cx] 26)).heap.size = w.heap.size + 1 by simp] at ko
  obtain ⟨⟨R, r⟩, hHR⟩ : ∃ q, fairR x ws i = q := ⟨_, rfl⟩
  have EN := Lib.hid (show ¬ (okW ws = true ∧ (0 ≤ i ∧ i < ws.length) ∧ okS x = true) → (R, r) = (zeroQ, false) from fun h => by rw [← hHR]; exact fair_no h)
  rw [hHR]
  go_enter Tryd.func5, Tryd.ntmps5
  go_wp2_with fail
  refine ((specWeightsOk_any _ ws lo hi _ (by omega) (HRW.out _ bb0)).mono fun _ _ h => same_below h).mono ?_
  rintro e w1 ⟨rfl, b1⟩
  have bb1 := Below.next bb0 b1
  replace kx := kx.below b1
  replace ko := ko.below b1
  obtain ⟨ow, how⟩ : ∃ b, okW ws = b := ⟨_, rfl⟩
  rw [how]
  have HOW := Lib.hid how
  clear how
  cases ow with
  | false =>
    clear hHR
    obtain ⟨rfl, rfl⟩ : R = zeroQ ∧ r = false := by have h := EN.out (fun hh => by have := hh.1; rw [HOW.out] at this; cases this); injection h with h1 h2; exact ⟨h1, h2⟩
    have HW := Lib.hid (newQb_zeroS (T := [w.heap.size + 1]) (fun i hi => by simp at hi; omega) bb1)
    have cz0 := ko.here.cell 0 _ rfl
    have fz0 := Lib.frozen_of_heap ko.here 0
    have cz1 := ko.here.cell 1 _ rfl
    have fz1 := Lib.frozen_of_heap ko.here 1
    have cz2 := ko.here.cell 2 _ rfl
    have fz2 := Lib.frozen_of_heap ko.here 2
    clear ko kx
    go_wp2
    refine bodyPost_ret (v := .tuple #[.agg #[.bool false, .slice none 0 0, .slice none 0 0], .bool false]) (by simp [results, Tryd.results5, go_sem, cz0, cz1, cz2]) rfl ?_
    refine HW.out _ ?_
    repeat (first | with_reducible exact Chg.refl _ _ | with_reducible refine Chg.setCell ?_ (by simp) _ | with_reducible refine Chg.drew1 ?_ | with_reducible refine Chg.trans ?_ (Chg.of_below (below_al (Below.refl _ _) _)))
  | true =>
    by_cases hin : 0 ≤ i ∧ i < ws.length
    · have hin2 : decide ((0 : Int) ≤ i ∧ i ≤ (ws.length : Int) - 1) = true := decide_eq_true (by omega)
      obtain ⟨k, rfl⟩ : ∃ k : Nat, i = (k : Int) := ⟨i.toNat, by omega⟩
      have hk : k < ws.length := by omega
      have hPW := okW_parts HOW.out
      have HPW := Lib.hid hPW
      have hl30 := hPW.l2
      have hall := HPW.out.all
      have hwk := hall _ (List.getElem_mem hk)
      have hat := (HPW.out.at_ hk).1
      have hsum := HPW.out.sum
      have HALL := Lib.hid (show ws.all wtB = true from List.all_eq_true.2 fun y hy => decide_eq_true (HPW.out.all y hy))
      clear hPW hall
      obtain ⟨aw, rfl, _, hab, hca⟩ := HA.out k _ (intsV_at ws k hk)
      have CWF := Lib.hid (show ∀ W, Below w.heap.size w W → W.cell? (aw.add k) = some (.int .i64 ws[k]) from fun W hb => (hb.cell (by rw [block_add]; omega)).trans hca)
      clear hca
      go_wp2_with fail
      refine ((specIn_any _ _ _ true _ hin2).mono fun _ _ h => same_below h).mono ?_
      rintro e w2 ⟨rfl, b2⟩
      have bb2 := Below.next bb1 b2
      replace kx := kx.below b2
      replace ko := ko.below b2
      have kx_c0 := kx.here.cell 0 _ rfl
      have kx_c1 := kx.here.cell 1 _ rfl
      go_wp2_with fail
      clear kx_c0 kx_c1
      refine (specIntOk_any _ x _ hlx (OwnS.rd (OSx.out _ bb2))).mono ?_
      rintro e w3 ⟨rfl, b3⟩
      have bb3 := Below.next bb2 b3
      replace kx := kx.below b3
      replace ko := ko.below b3
      obtain ⟨ok, hok⟩ : ∃ b, okS x = b := ⟨_, rfl⟩
      rw [hok]
      have HOK := Lib.hid hok
      clear hok
      cases ok with
      | false =>
        clear hHR
        obtain ⟨rfl, rfl⟩ : R = zeroQ ∧ r = false := by have h := EN.out (fun hh => by have := hh.2.2; rw [HOK.out] at this; cases this); injection h with h1 h2; exact ⟨h1, h2⟩
        have HW := Lib.hid (newQb_zeroS (T := [w.heap.size + 1]) (fun i hi => by simp at hi; omega) bb3)
        have cz0 := ko.here.cell 0 _ rfl
        have fz0 := Lib.frozen_of_heap ko.here 0
        have cz1 := ko.here.cell 1 _ rfl
        have fz1 := Lib.frozen_of_heap ko.here 1
        have cz2 := ko.here.cell 2 _ rfl
        have fz2 := Lib.frozen_of_heap ko.here 2
        clear ko kx
        go_wp2
        refine bodyPost_ret (v := .tuple #[.agg #[.bool false, .slice none 0 0, .slice none 0 0], .bool false]) (by simp [results, Tryd.results5, go_sem, cz0, cz1, cz2]) rfl ?_
        refine HW.out _ ?_
        repeat (first | with_reducible exact Chg.refl _ _ | with_reducible refine Chg.setCell ?_ (by simp) _ | with_reducible refine Chg.drew1 ?_ | with_reducible refine Chg.trans ?_ (Chg.of_below (below_al (Below.refl _ _) _)))
      | true =>
        have EV := Lib.hid (show lowQ x.1 ((nval x.2).toNat * (natW ws)[k]!) (natW ws).sum = (R, r) by rw [← hHR, fair_yes HOW.out hk HOK.out])
        clear hHR EN
        have hp := okS_parts HOK.out
        have hl50 := (natOk_parts hp.1).2.1
        have HDG := Lib.hid (natOk_parts hp.1).1
        have HX1 := Lib.hid (show (nval x.2 * nval (limbs ws[k].toNat)).toNat = (nval x.2).toNat * (natW ws)[k]! by rw [limbs_val, Int.toNat_mul (nval_ok hp.1) (by omega)]; congr 1; omega)
        have hlk : (limbs ws[k].toNat).length ≤ 2 := limbs_length_le _ 2 (by have e : bp 2 = 1000000000000000000 := rfl; omega)
        have HL1 := Lib.hid (show (limbs ((nval x.2).toNat * (natW ws)[k]!)).length ≤ 60 from limbs_length_le _ 60 (by have h1 := nval_lt _ HDG.out; have h2 := bp_mono hl50; have h3 := mul_lt (a := (nval x.2).toNat) (b := (natW ws)[k]!) (i := 50) (j := 2) (by have := nval_ok hp.1; omega) (by have e : bp 2 = 1000000000000000000 := rfl; have := (HPW.out.at_ hk).2; omega); have h4 : bp (50 + 2) ≤ bp 60 := bp_mono (by omega); omega))
        have HLT := Lib.hid (show (limbs (natW ws).sum).length ≤ 50 from Nat.le_trans (natW_len2 HPW.out) (by decide))
        have HTS := Lib.hid (show ws.sum.toNat = (natW ws).sum by have := HPW.out.sum; omega)
        clear hp
        obtain ⟨X1, hX1⟩ : ∃ X, X = (nval x.2).toNat * (natW ws)[k]! := ⟨_, rfl⟩
        rw [← hX1] at EV HX1 HL1
        clear hX1
        have hko := ko.lt (w.heap.size + 1) (by simp)
        have kx_c0 := kx.here.cell 0 _ rfl
        have kx_c1 := kx.here.cell 1 _ rfl
        have hca := CWF.out _ bb3
        go_wp2_with fail
        clear hca
        have HC0 := Lib.hid (show Chg [w.heap.size + 1] w3 w3.drew from (Chg.refl _ _).drew1)
        have HCr := Lib.hid (show Chg [w.heap.size + 1] w3 w3 from Chg.refl _ _)
        have KL := Lib.hid (show ∀ W, Chg [w.heap.size + 1] w3 W → W.cell? ⟨w.heap.size, 0, none⟩ = some (.bool x.1) ∧ W.cell? ⟨w.heap.size, 1, none⟩ = some (.slice Ax x.2.length cx) ∧ W.cell? (aw.add k) = some (.int .i64 ws[k]) ∧ Hid (Chg [w.heap.size + 1] w3 W) from fun W hc => ⟨(kx.chg hc (fun i hi hm => by simp at hi hm; omega)).here.cell 0 _ rfl, (kx.chg hc (fun i hi hm => by simp at hi hm; omega)).here.cell 1 _ rfl, CWF.out W (below_chg bb3 hc bb3.size (fun i hi => by simp at hi; omega)), Lib.hid hc⟩)
        have BBF := Lib.hid (show ∀ W, Chg [w.heap.size + 1] w3 W → Below w.heap.size w W from fun W hc => below_chg bb3 hc bb3.size (fun i hi => by simp at hi; omega))
        clear kx_c0 kx_c1
        go_region_held3 (fun W => W.cell? ⟨w.heap.size, 0, none⟩ = some (.bool x.1) ∧ W.cell? ⟨w.heap.size, 1, none⟩ = some (.slice Ax x.2.length cx) ∧ W.cell? (aw.add k) = some (.int .i64 ws[k]) ∧ Hid (Chg [w.heap.size + 1] w3 W))
          ((refine KL.out _ ?_; (first | exact HC8.out | exact HC7.out | exact HC6.out | exact HC5.out | exact HC4.out | exact HCr.out | exact HC0.out | exact HC8.out.drew1 | exact HC7.out.drew1 | exact HC6.out.drew1 | exact HC5.out.drew1 | exact HC4.out.drew1 | exact HCr.out.drew1 | exact HC0.out.drew1 | exact HC8.out.trans (Chg.of_below (below_al (Below.refl _ _) _)) | exact HC7.out.trans (Chg.of_below (below_al (Below.refl _ _) _)) | exact HC6.out.trans (Chg.of_below (below_al (Below.refl _ _) _)) | exact HC5.out.trans (Chg.of_below (below_al (Below.refl _ _) _)) | exact HC4.out.trans (Chg.of_below (below_al (Below.refl _ _) _)) | exact HCr.out.trans (Chg.of_below (below_al (Below.refl _ _) _)) | exact HC0.out.trans (Chg.of_below (below_al (Below.refl _ _) _)) | exact (Chg.setCell HC8.out (by simp) _) | exact (Chg.setCell (Chg.setCell HC8.out (by simp) _) (by simp) _) | exact (Chg.setCell (Chg.setCell (Chg.setCell HC8.out (by simp) _) (by simp) _) (by simp) _) | fail)))
          (first
            | (go_at_call 22; (have hBB := (‹_ ∧ _ ∧ _ ∧ Hid (Chg [w.heap.size + 1] w3 _)›).2.2.2); (with_reducible refine ((specNatOf_any ws[k] _ (by omega)).mono fun _ _ h => h.newV).mono ?_); rintro e w4 ⟨u1, S1, rfl, o1, l1, b4⟩; have HC4 := Lib.hid (hBB.out.trans (Chg.of_below b4)); (have ko_4 := At.below (by first | exact ko | exact At.below ko (below_al (Below.refl _ _) _) | exact At.below (At.below ko (below_al (Below.refl _ _) _)) (below_al (Below.refl _ _) _) | exact At.move ko (fun _ _ => rfl) (Nat.le_refl _) | exact At.below (At.move (w' := w3.drew) ko (fun _ _ => rfl) (Nat.le_refl _)) (below_al (Below.refl _ _) _)) b4); obtain ⟨A1, c1, rfl⟩ := own_len o1.here; have HBZ4 := Lib.hid hBB.out.size; clear hBB)
            | (go_at_call 21; (have hBB := (‹_ ∧ _ ∧ _ ∧ Hid (Chg [w.heap.size + 1] w3 _)›).2.2.2); (with_reducible refine ((specMulV_any _ _ x.2 (limbs ws[k].toNat) 0 _ 0 _ _ hl50 (by omega) (Nat.le_refl _) (Nat.le_refl _) HDG.out (limbs_digN _) (OUx.out _ (BBF.out _ hBB.out)).row (OwnI.row (At.here (by first | exact o1 | exact At.below o1 (below_al (Below.refl _ _) _) | exact At.below (At.below o1 (below_al (Below.refl _ _) _)) (below_al (Below.refl _ _) _) | exact At.move o1 (fun _ _ => rfl) (Nat.le_refl _) | exact At.below (At.move (w' := w3.drew) o1 (fun _ _ => rfl) (Nat.le_refl _)) (below_al (Below.refl _ _) _))))).mono fun _ _ h => newV_ints h HX1.out).mono ?_); rintro e w5 ⟨u2, S2, rfl, o2, l2, b5⟩; have HC5 := Lib.hid (hBB.out.trans (Chg.of_below b5)); (have ko_5 := At.below (by first | exact ko_4 | exact At.below ko_4 (below_al (Below.refl _ _) _) | exact At.below (At.below ko_4 (below_al (Below.refl _ _) _)) (below_al (Below.refl _ _) _) | exact At.move ko_4 (fun _ _ => rfl) (Nat.le_refl _) | exact At.below (At.move (w' := w3.drew) ko_4 (fun _ _ => rfl) (Nat.le_refl _)) (below_al (Below.refl _ _) _)) b5); (have o1_5 := At.below (by first | exact o1 | exact At.below o1 (below_al (Below.refl _ _) _) | exact At.below (At.below o1 (below_al (Below.refl _ _) _)) (below_al (Below.refl _ _) _) | exact At.move o1 (fun _ _ => rfl) (Nat.le_refl _) | exact At.below (At.move (w' := w3.drew) o1 (fun _ _ => rfl) (Nat.le_refl _)) (below_al (Below.refl _ _) _)) b5); obtain ⟨A2, c2, rfl⟩ := own_len o2.here; have HBZ5 := Lib.hid hBB.out.size; clear hBB)
            | (go_at_call 23; (have hBB := (‹_ ∧ _ ∧ _ ∧ Hid (Chg [w.heap.size + 1] w3 _)›).2.2.2); (with_reducible refine ((specSumW_any _ ws lo hi _ hl30 HALL.out (HRW.out _ (BBF.out _ hBB.out))).mono fun _ _ h => same_below h).mono ?_); rintro e w6 ⟨rfl, b6⟩; have HC6 := Lib.hid (hBB.out.trans (Chg.of_below b6)); (have ko_6 := At.below (by first | exact ko_5 | exact At.below ko_5 (below_al (Below.refl _ _) _) | exact At.below (At.below ko_5 (below_al (Below.refl _ _) _)) (below_al (Below.refl _ _) _) | exact At.move ko_5 (fun _ _ => rfl) (Nat.le_refl _) | exact At.below (At.move (w' := w3.drew) ko_5 (fun _ _ => rfl) (Nat.le_refl _)) (below_al (Below.refl _ _) _)) b6); (have o1_6 := At.below (by first | exact o1_5 | exact At.below o1_5 (below_al (Below.refl _ _) _) | exact At.below (At.below o1_5 (below_al (Below.refl _ _) _)) (below_al (Below.refl _ _) _) | exact At.move o1_5 (fun _ _ => rfl) (Nat.le_refl _) | exact At.below (At.move (w' := w3.drew) o1_5 (fun _ _ => rfl) (Nat.le_refl _)) (below_al (Below.refl _ _) _)) b6); (have o2_6 := At.below (by first | exact o2 | exact At.below o2 (below_al (Below.refl _ _) _) | exact At.below (At.below o2 (below_al (Below.refl _ _) _)) (below_al (Below.refl _ _) _) | exact At.move o2 (fun _ _ => rfl) (Nat.le_refl _) | exact At.below (At.move (w' := w3.drew) o2 (fun _ _ => rfl) (Nat.le_refl _)) (below_al (Below.refl _ _) _)) b6); have HBZ6 := Lib.hid hBB.out.size; clear hBB)
            | (go_at_call 22; (have hBB := (‹_ ∧ _ ∧ _ ∧ Hid (Chg [w.heap.size + 1] w3 _)›).2.2.2); (with_reducible refine ((specNatOf_any ws.sum _ (by omega)).mono fun _ _ h => newV_limbs h HTS.out).mono ?_); rintro e w7 ⟨u4, S4, rfl, o4, l4, b7⟩; have HC7 := Lib.hid (hBB.out.trans (Chg.of_below b7)); (have ko_7 := At.below (by first | exact ko_6 | exact At.below ko_6 (below_al (Below.refl _ _) _) | exact At.below (At.below ko_6 (below_al (Below.refl _ _) _)) (below_al (Below.refl _ _) _) | exact At.move ko_6 (fun _ _ => rfl) (Nat.le_refl _) | exact At.below (At.move (w' := w3.drew) ko_6 (fun _ _ => rfl) (Nat.le_refl _)) (below_al (Below.refl _ _) _)) b7); (have o1_7 := At.below (by first | exact o1_6 | exact At.below o1_6 (below_al (Below.refl _ _) _) | exact At.below (At.below o1_6 (below_al (Below.refl _ _) _)) (below_al (Below.refl _ _) _) | exact At.move o1_6 (fun _ _ => rfl) (Nat.le_refl _) | exact At.below (At.move (w' := w3.drew) o1_6 (fun _ _ => rfl) (Nat.le_refl _)) (below_al (Below.refl _ _) _)) b7); (have o2_7 := At.below (by first | exact o2_6 | exact At.below o2_6 (below_al (Below.refl _ _) _) | exact At.below (At.below o2_6 (below_al (Below.refl _ _) _)) (below_al (Below.refl _ _) _) | exact At.move o2_6 (fun _ _ => rfl) (Nat.le_refl _) | exact At.below (At.move (w' := w3.drew) o2_6 (fun _ _ => rfl) (Nat.le_refl _)) (below_al (Below.refl _ _) _)) b7); obtain ⟨A4, c4, rfl⟩ := own_len o4.here; have HBZ7 := Lib.hid hBB.out.size; clear hBB)
            | (go_at_call 20; (have hBB := (‹_ ∧ _ ∧ _ ∧ Hid (Chg [w.heap.size + 1] w3 _)›).2.2.2); (with_reducible refine ((l05Low60_any x.1 _ _ X1 (natW ws).sum _ HL1.out HLT.out (At.here (by first | exact o2_7 | exact At.below o2_7 (below_al (Below.refl _ _) _) | exact At.below (At.below o2_7 (below_al (Below.refl _ _) _)) (below_al (Below.refl _ _) _) | exact At.move o2_7 (fun _ _ => rfl) (Nat.le_refl _) | exact At.below (At.move (w' := w3.drew) o2_7 (fun _ _ => rfl) (Nat.le_refl _)) (below_al (Below.refl _ _) _))) (At.here (by first | exact o4 | exact At.below o4 (below_al (Below.refl _ _) _) | exact At.below (At.below o4 (below_al (Below.refl _ _) _)) (below_al (Below.refl _ _) _) | exact At.move o4 (fun _ _ => rfl) (Nat.le_refl _) | exact At.below (At.move (w' := w3.drew) o4 (fun _ _ => rfl) (Nat.le_refl _)) (below_al (Below.refl _ _) _)))).mono fun _ _ h => postQb_isS EV.out h).mono ?_); rintro e w8 ⟨u5, S5, rfl, o5, l5, b8⟩; have HC8 := Lib.hid (hBB.out.trans (Chg.of_below b8)); (have ko_8 := At.below (by first | exact ko_7 | exact At.below ko_7 (below_al (Below.refl _ _) _) | exact At.below (At.below ko_7 (below_al (Below.refl _ _) _)) (below_al (Below.refl _ _) _) | exact At.move ko_7 (fun _ _ => rfl) (Nat.le_refl _) | exact At.below (At.move (w' := w3.drew) ko_7 (fun _ _ => rfl) (Nat.le_refl _)) (below_al (Below.refl _ _) _)) b8); (have o1_8 := At.below (by first | exact o1_7 | exact At.below o1_7 (below_al (Below.refl _ _) _) | exact At.below (At.below o1_7 (below_al (Below.refl _ _) _)) (below_al (Below.refl _ _) _) | exact At.move o1_7 (fun _ _ => rfl) (Nat.le_refl _) | exact At.below (At.move (w' := w3.drew) o1_7 (fun _ _ => rfl) (Nat.le_refl _)) (below_al (Below.refl _ _) _)) b8); (have o2_8 := At.below (by first | exact o2_7 | exact At.below o2_7 (below_al (Below.refl _ _) _) | exact At.below (At.below o2_7 (below_al (Below.refl _ _) _)) (below_al (Below.refl _ _) _) | exact At.move o2_7 (fun _ _ => rfl) (Nat.le_refl _) | exact At.below (At.move (w' := w3.drew) o2_7 (fun _ _ => rfl) (Nat.le_refl _)) (below_al (Below.refl _ _) _)) b8); (have o4_8 := At.below (by first | exact o4 | exact At.below o4 (below_al (Below.refl _ _) _) | exact At.below (At.below o4 (below_al (Below.refl _ _) _)) (below_al (Below.refl _ _) _) | exact At.move o4 (fun _ _ => rfl) (Nat.le_refl _) | exact At.below (At.move (w' := w3.drew) o4 (fun _ _ => rfl) (Nat.le_refl _)) (below_al (Below.refl _ _) _)) b8); obtain ⟨A5, c5, B5, d5, rfl⟩ := ownQ_form o5.here; have cz0 := ko_8.here.cell 0 _ rfl; have fz0 := Lib.frozen_of_heap ko_8.here 0; have cz1 := ko_8.here.cell 1 _ rfl; have fz1 := Lib.frozen_of_heap ko_8.here 1; have cz2 := ko_8.here.cell 2 _ rfl; have fz2 := Lib.frozen_of_heap ko_8.here 2; have HBZ8 := Lib.hid hBB.out.size; clear hBB))
        have bb8 := BBF.out _ HC8.out
        replace kx := kx.chg HC8.out (fun i hi hm => by simp at hi hm; omega)
        replace ko := ko_8
        have o1 := o1_8
        have o2 := o2_8
        have o4 := o4_8
        have HW := Lib.hid (newQb_at (r := w.heap.size + 1) (b := r) o5 l5 (by have := HBZ8.out; omega) (by omega) bb8)
        clear o1 o2 o4 o5 l1 l2 l4 l5 ko kx
        go_wp2
        refine bodyPost_ret (v := .tuple #[.agg #[.bool R.1.1, .slice A5 R.1.2.length c5, .slice B5 R.2.length d5], .bool r]) (by simp [results, Tryd.results5, go_sem, cz0, cz1, cz2]) rfl ?_
        exact HW.out
    · have hin2 : decide ((0 : Int) ≤ i ∧ i ≤ (ws.length : Int) - 1) = false := decide_eq_false (by omega)
      have HIN := Lib.hid hin
      clear hHR hin
      go_wp2_with fail
      refine ((specIn_any _ _ _ false _ hin2).mono fun _ _ h => same_below h).mono ?_
      rintro e w2 ⟨rfl, b2⟩
      have bb2 := Below.next bb1 b2
      replace kx := kx.below b2
      replace ko := ko.below b2
      obtain ⟨rfl, rfl⟩ : R = zeroQ ∧ r = false := by have h := EN.out (fun hh => HIN.out hh.2.1); injection h with h1 h2; exact ⟨h1, h2⟩
      have HW := Lib.hid (newQb_zeroS (T := [w.heap.size + 1]) (fun i hi => by simp at hi; omega) bb2)
      have cz0 := ko.here.cell 0 _ rfl
      have fz0 := Lib.frozen_of_heap ko.here 0
      have cz1 := ko.here.cell 1 _ rfl
      have fz1 := Lib.frozen_of_heap ko.here 1
      have cz2 := ko.here.cell 2 _ rfl
      have fz2 := Lib.frozen_of_heap ko.here 2
      clear ko kx
      go_wp2
      refine bodyPost_ret (v := .tuple #[.agg #[.bool false, .slice none 0 0, .slice none 0 0], .bool false]) (by simp [results, Tryd.results5, go_sem, cz0, cz1, cz2]) rfl ?_
      refine HW.out _ ?_
      repeat (first | with_reducible exact Chg.refl _ _ | with_reducible refine Chg.setCell ?_ (by simp) _ | with_reducible refine Chg.drew1 ?_ | with_reducible refine Chg.trans ?_ (Chg.of_below (below_al (Below.refl _ _) _)))
end Go.Proofs.YtipbdpdmefcofaaDoor
