/-
  Chapter 11 of package impl: RatePut.
  Chapter 11 of package spec: l10Rate.
  Chapter 11 of package spec: l10Copy.
  Chapter 11 of package spec: RatePut.
  What a law of a door seat needs: its row lists the three number tables of the library; one of them is read.
  Worlds for witnesses that hold the table of currencies and the library's tables; the number table, wherever it is listed.
  The law FnExactRateText of chapter 11, walked: it returns true wherever both packages answer alike.
  strings.Cut at a point, strings.TrimLeft of noughts.
  Chapter 8 of package impl: DecText, TextDec.
  Chapter 11 of package impl: what RateText returns.
  Chapter 8 of package spec: DecText.
-/
import Derived.Deep.RegionLaw
import Derived.Deep.AppendLies
import Derived.Test.YtbpfabicampdkaaDoorCards
import Derived.Test.YtbpfabicampdkaaDoorTie
import Derived.Deep.DeepHandedRow
import Derived.Lib.LaidTab
import Derived.Deep.RegionHeld3
import Derived.Deep.DeepCutAuto
import Derived.IntWalk
import Derived.Test.YtbpfabicampdkaaDoorJA6
namespace Go.Proofs.YtbpfabicampdkaaDoor
open Go.RowKit

theorem At.under {S : List Nat} {φ : World → Prop} {w w' : World} {B : Nat} (h : At S φ w) (hb : Below B w w') (hS : ∀ g ∈ S, g < B) : At S φ w' := h.move (fun g hg => hb.block g (hS g hg)) hb.size
set_option maxHeartbeats 4000000 in
set_option maxRecDepth 100000 in
theorem implRatePut_any (vt vr : Value) (t : TI) (r : EI) (w : World) (hl : t.2.length ≤ 1048576) (hx : ∀ x ∈ t.2, x.2.2.1.2.length ≤ 1048576) (hlr : r.2.2.1.2.length ≤ 1048576) (h : OwnTR w vt t) (hr : OwnE vr r w) (ht : CurTab w) :
    Calls Tryd.prog 18 #[vt, vr] w (PostTb (putT t r).1 (putT t r).2 w) := by
  obtain ⟨i0, hi0, hq0, hq1, hq2⟩ := info_parts infoEL
  obtain ⟨At, ct, rfl, hrt⟩ := ownTR_form h
  have HRT := Lib.hid (show ∀ W, Below w.heap.size w W → OwnER W (.slice At t.2.length ct) t.2 from fun W h => hrt.below h)
  have HTR := Lib.hid (show ∀ W, Below w.heap.size w W → OwnTR W (.agg #[.string t.1, .slice At t.2.length ct]) t from fun W h => ⟨_, rfl, hrt.below h⟩)
  clear h hrt
  have Hr := Lib.hid hr
  obtain ⟨Ar, cr, rfl⟩ := ownE_form hr
  have OEr := Lib.hid (show ∀ W, Below w.heap.size w W → OwnE (.agg #[.string r.1, .string r.2.1, .bool r.2.2.1.1, .slice Ar r.2.2.1.2.length cr, .int .i64 r.2.2.2]) r W from fun W hb => OwnE.below Hr.out hb)
  have OIr := Lib.hid (show ∀ W, Below w.heap.size w W → OwnI (.slice Ar r.2.2.1.2.length cr) r.2.2.1.2 W from fun W hb => ownE_open (OEr.out W hb))
  have ODr := Lib.hid (show ∀ W, Below w.heap.size w W → OwnD (.agg #[.bool r.2.2.1.1, .slice Ar r.2.2.1.2.length cr, .int .i64 r.2.2.2]) r.2.2 W from fun W hb => OwnD.mk (OIr.out W hb))
  have OSr := Lib.hid (show ∀ W, Below w.heap.size w W → OwnS (.agg #[.bool r.2.2.1.1, .slice Ar r.2.2.1.2.length cr]) r.2.2.1 W from fun W hb => OwnS.mk (OIr.out W hb))
  clear hr
  have HT := Lib.hid ht
  clear ht
  have bb0 : Below w.heap.size w (((w.alloc (.cells #[.string t.1, .slice At t.2.length ct] 46)).alloc (.cells #[.string r.1, .string r.2.1, .bool r.2.2.1.1, .slice Ar r.2.2.1.2.length cr, .int .i64 r.2.2.2] 35)).alloc (.cells #[.string ⟨#[]⟩, .slice none 0 0] 46)) := below_al (below_al (below_al (Below.refl _ _) _) _) _
  have kt := (box_new w #[.string t.1, .slice At t.2.length ct] 46).below (below_al (below_al (Below.refl _ _) (.cells #[.string r.1, .string r.2.1, .bool r.2.2.1.1, .slice Ar r.2.2.1.2.length cr, .int .i64 r.2.2.2] 35)) (.cells #[.string ⟨#[]⟩, .slice none 0 0] 46))
  have kr := (box_new (w.alloc (.cells #[.string t.1, .slice At t.2.length ct] 46)) #[.string r.1, .string r.2.1, .bool r.2.2.1.1, .slice Ar r.2.2.1.2.length cr, .int .i64 r.2.2.2] 35).below (below_al (Below.refl _ _) (.cells #[.string ⟨#[]⟩, .slice none 0 0] 46))
  rw [show (w.alloc (.cells #[.string t.1, .slice At t.2.length ct] 46)).heap.size = w.heap.size + 1 by simp] at kr
  have ko := (box_new ((w.alloc (.cells #[.string t.1, .slice At t.2.length ct] 46)).alloc (.cells #[.string r.1, .string r.2.1, .bool r.2.2.1.1, .slice Ar r.2.2.1.2.length cr, .int .i64 r.2.2.2] 35)) #[.string ⟨#[]⟩, .slice none 0 0] 46)
  rw [show ((w.alloc (.cells #[.string t.1, .slice At t.2.length ct] 46)).alloc (.cells #[.string r.1, .string r.2.1, .bool r.2.2.1.1, .slice Ar r.2.2.1.2.length cr, .int .i64 r.2.2.2] 35)).heap.size = w.heap.size + 1 + 1 by simp] at ko
  have HKO := Lib.hid (ko.lt (w.heap.size + 1 + 1) (by simp))
  go_enter Tryd.func18, Tryd.ntmps18
  have kt_c0 := kt.here.cell 0 _ rfl
  have kt_c1 := kt.here.cell 1 _ rfl
  go_wp2_with fail
  clear kt_c0 kt_c1
  refine (implRatesOk_any _ t _ (by omega) hx (HTR.out _ bb0) (HT.out.below bb0)).mono ?_
  rintro e w1 ⟨rfl, b1⟩
  have bb1 := Below.next bb0 b1
  replace kt := kt.below b1
  replace kr := kr.below b1
  replace ko := ko.below b1
  by_cases ok : okT t = true
  · rw [ok]
    have HP := Lib.hid (putT_good (r := r) ok)
    clear ok
    have hw1 : w.heap.size + 3 ≤ w1.heap.size := by have := b1.size; simp at this; omega
    have kt_c0 := kt.here.cell 0 _ rfl
    have kt_c1 := kt.here.cell 1 _ rfl
    go_wp2_with fail
    clear kt_c0 kt_c1
    refine (copyRates_any _ t.2 _ (by omega) hx (HRT.out _ bb1)).mono ?_
    rintro e w2 ⟨u1, rfl, RB, b2⟩
    obtain ⟨A1, c1, rfl⟩ := rowB_len RB
    have bb2 := Below.next bb1 b2
    replace kt := kt.below b2
    replace kr := kr.below b2
    replace ko := ko.below b2
    have kr_c0 := kr.here.cell 0 _ rfl
    have kr_c1 := kr.here.cell 1 _ rfl
    have kr_c2 := kr.here.cell 2 _ rfl
    have kr_c3 := kr.here.cell 3 _ rfl
    have kr_c4 := kr.here.cell 4 _ rfl
    go_wp2_with fail
    clear kr_c0 kr_c1 kr_c2 kr_c3 kr_c4
    refine (pairOf_any _ r _ (OEr.out _ bb2).rd).mono ?_
    rintro e w3 ⟨rfl, b3⟩
    have bb3 := Below.next bb2 b3
    replace kt := kt.below b3
    replace kr := kr.below b3
    replace ko := ko.below b3
    replace RB := RB.below b3
    go_wp2_with fail
    refine (rateAt_any _ t.2 r.1 r.2.1 _ (by omega) RB.own.ownR.rd).mono ?_
    rintro e w4 ⟨rfl, b4⟩
    have bb4 := Below.next bb3 b4
    replace kt := kt.below b4
    replace kr := kr.below b4
    replace ko := ko.below b4
    replace RB := RB.below b4
    have hW1 : w1.heap.size ≤ w4.heap.size := by have := b2.size; have := b3.size; have := b4.size; omega
    by_cases hz : posE t.2 r.1 r.2.1 < 0
    · have hz1 : decide (0 ≤ posE t.2 r.1 r.2.1) = false := decide_eq_false (by omega)
      have NE := newT_app hz
      clear hz
      obtain ⟨z, hzz⟩ : ∃ z, posE t.2 r.1 r.2.1 = z := ⟨_, rfl⟩
      rw [hzz] at hz1 ⊢
      clear hzz
      obtain ⟨e, ho1, hnext⟩ := rowB_open RB
      have HNX := Lib.hid hnext
      have HO1 := Lib.hid ho1
      clear RB hnext ho1
      have kr_c0 := kr.here.cell 0 _ rfl
      have kr_c1 := kr.here.cell 1 _ rfl
      have kr_c2 := kr.here.cell 2 _ rfl
      have kr_c3 := kr.here.cell 3 _ rfl
      have kr_c4 := kr.here.cell 4 _ rfl
      go_wp2_with fail
      clear kr_c0 kr_c1 kr_c2 kr_c3 kr_c4
      refine (copyRate_any _ r _ hlr (OEr.out _ bb4)).mono ?_
      rintro e w5 ⟨u2, Sn, rfl, on, ln, b5⟩
      obtain ⟨An, cn, rfl⟩ := ownE_form on.here
      obtain ⟨orow, _⟩ := newE_own on ln
      have bb5 := Below.next bb4 b5
      replace kt := kt.below b5
      replace kr := kr.below b5
      replace ko := ko.below b5
      have hnew := five_new w5 (.string r.1) (.string r.2.1) (.bool r.2.2.1.1) (.slice An r.2.2.1.2.length cn) (.int .i64 r.2.2.2) 35
      have HON := Lib.hid (own_alloc orow (.cells #[.string r.1, .string r.2.1, .bool r.2.2.1.1, .slice An r.2.2.1.2.length cn, .int .i64 r.2.2.2] 35))
      have HOA := Lib.hid (own_alloc (own_below HO1.out b5) (.cells #[.string r.1, .string r.2.1, .bool r.2.2.1.1, .slice An r.2.2.1.2.length cn, .int .i64 r.2.2.2] 35))
      have HB2 := Lib.hid b5
      have HVB := Lib.hid (show ∀ b, (Value.slice A1 t.2.length c1).ownBlock = some b → w1.heap.size ≤ b from fun b hb => (own_lt HO1.out hb).1)
      have hzm := b5.size
      have HBB := Lib.hid bb5
      have HKT := Lib.hid kt
      have HKO2 := Lib.hid ko
      clear on ln orow kt ko kr b5 hz1
      go_wp2_with (at_builtin; refine wpList_append_own _ rfl _ _ 44 rfl w1.heap.size 35 i0 (.agg #[.string ⟨#[]⟩, .string ⟨#[]⟩, .bool false, .slice none 0 0, .int .i64 0]) 5 72 Tryd.underlying44 hi0 hq0 hq1 hq2 rfl (by decide) (.slice A1 t.2.length c1) t.2.length (flatE e) rfl HOA.out ⟨w5.heap.size, 0, none⟩ 1 1 [.string r.1, .string r.2.1, .bool r.2.2.1.1, .slice An r.2.2.1.2.length cn, .int .i64 r.2.2.2] rfl rfl hnew ?c2 ?c3 ?c4 ?c5 ?_)
      case c2 => intro u hu; simp at hu; rcases hu with rfl | rfl | rfl | rfl | rfl <;> rfl
      case c3 => unfold maxLen; omega
      case c4 => omega
      case c5 => simp; omega
      intro v2 w6 hown2 hg2 _
      have RN0 := HNX.out _ w6 w4.heap.size r _ v2 (fun i hi => ((Below.refl w5.heap.size w5).alloc (Nat.le_refl _) _).block i (by omega) |>.trans (HB2.out.block i hi)) (Nat.le_refl _) hW1 HON.out hown2 hg2
      have RN : RowB w1.heap.size v2 (newT t r).2 w6 := by rw [NE]; exact RN0
      have hap := below_app (Below.refl w1.heap.size w5) (by omega) (Below.refl w5.heap.size w5) hg2 HVB.out
      have bbN : Below w.heap.size w w6 := HBB.out.trans (hap.mono (by omega))
      have kt := HKT.out.under hap (fun i hi => by simp at hi; omega)
      have ko := HKO2.out.under hap (fun i hi => by simp at hi; omega)
      have hW1 : w1.heap.size ≤ w6.heap.size := by have := hap.size; omega
      clear hown2 hg2 RN0 hap HNX HON HOA HVB HBB HKT HKO2 HO1 hnew HB2
      have hN1 : (newT t r).1 = t.1 := by rw [NE]
      have hNl := newT_len t r
      have hNx := newT_all (r := r) hx hlr
      obtain ⟨SN, on, _, ln⟩ := rowB_at RN
      obtain ⟨AN, cN, eN⟩ := rowB_len RN
      have HRN := Lib.hid (show ∀ W', Below w6.heap.size w6 W' → OwnER W' _ (newT t r).2 from fun W' h => (RN.below h).own.ownR)
      clear NE RN
      generalize newT t r = N at *
      obtain ⟨n1, nl⟩ := N
      dsimp only at *
      subst eN
      rw [← hN1] at kt
      clear hN1
      have kt_c0 := kt.here.cell 0 _ rfl
      have kt_c1 := kt.here.cell 1 _ rfl
      go_upto_region 9 with fail
      clear kt_c0 kt_c1
      clear kt
      have kp := box_new (w6) #[.string n1, .slice AN nl.length cN] 46
      have alp := below_al (Below.refl (w6).heap.size (w6)) (.cells #[.string n1, .slice AN nl.length cN] 46)
      have bbp := Below.next bbN alp
      replace ko := ko.below alp
      replace on := on.below alp
      have HRN2 := Lib.hid (show ∀ W', Below (w6.alloc (.cells #[.string n1, .slice AN nl.length cN] 46)).heap.size (w6.alloc (.cells #[.string n1, .slice AN nl.length cN] 46)) W' → OwnTR W' (.agg #[.string n1, .slice AN nl.length cN]) (n1, nl) from fun W' h => ⟨_, rfl, HRN.out _ ((below_al (Below.refl _ _) _).trans (h.mono (by simp)))⟩)
      have hzW : (w6.alloc (.cells #[.string n1, .slice AN nl.length cN] 46)).heap.size = w6.heap.size + 1 := by simp
      have kp_c0 := kp.here.cell 0 _ rfl
      have kp_c1 := kp.here.cell 1 _ rfl
      go_wp2_with fail
      clear kp_c0 kp_c1
      refine (implRatesOk_any _ (n1, nl) _ (by dsimp only; omega) hNx (HRN2.out _ (Below.refl _ _)) (HT.out.below bbp)).mono ?_
      rintro e wf ⟨rfl, bf⟩
      have bbf := Below.next bbp bf
      replace ko := ko.below bf
      replace on := on.below bf
      replace kp := kp.below bf
      by_cases okn : okT (n1, nl) = true
      · have HV := Lib.hid (HP.out.trans (if_pos okn))
        rw [okn]
        clear okn
        have HW := Lib.hid (newTb_at (r := w.heap.size + 1 + 1) (b := true) (x := (n1, nl)) (B := w1.heap.size) (on.imp fun _ h => (⟨_, rfl, h⟩ : OwnT (.agg #[.string n1, .slice AN nl.length cN]) (n1, nl) _)) (fun i hi => ⟨(ln i hi).1, on.lt i hi⟩) (by omega) (by omega) bbf)
        have cz0 := ko.here.cell 0 _ rfl
        have fz0 := Lib.frozen_of_heap ko.here 0
        have cz1 := ko.here.cell 1 _ rfl
        have fz1 := Lib.frozen_of_heap ko.here 1
        have cp0 := kp.here.cell 0 _ rfl
        have cp1 := kp.here.cell 1 _ rfl
        have hnp1 : ¬ w6.heap.size = w.heap.size + 1 + 1 := by omega
        have hnp2 : ¬ w.heap.size + 1 + 1 = w6.heap.size := fun e => hnp1 e.symm
        clear kp ko on
        go_wp2
        refine bodyPost_ret (v := .tuple #[.agg #[.string n1, .slice AN nl.length cN], .bool true]) (by simp [results, Tryd.results18, go_sem, cz0, cz1]) rfl ?_
        rw [HV.out]
        exact HW.out
      · have okn' : okT (n1, nl) = false := by simpa using okn
        have HV := Lib.hid (HP.out.trans (if_neg okn))
        rw [okn']
        clear okn okn'
        have cz0 := ko.here.cell 0 _ rfl
        have fz0 := Lib.frozen_of_heap ko.here 0
        have cz1 := ko.here.cell 1 _ rfl
        have fz1 := Lib.frozen_of_heap ko.here 1
        clear ko on kp
        go_wp2
        refine bodyPost_ret (v := .tuple #[.agg #[.string ⟨#[]⟩, .slice none 0 0], .bool false]) (by simp [results, Tryd.results18, go_sem, cz0, cz1]) rfl ?_
        rw [HV.out]
        first | exact newTb_zero _ bbf | exact newTb_zero _ (below_set2 bbf (by omega))
    · have hz1 : decide (0 ≤ posE t.2 r.1 r.2.1) = true := decide_eq_true (by omega)
      obtain ⟨n, x, hzn, hxn, _⟩ := posE_at (show 0 ≤ posE t.2 r.1 r.2.1 by omega)
      have hnl := (List.getElem?_eq_some_iff.1 hxn).1
      have NE := newT_set hzn
      rw [hzn] at hz1 ⊢
      clear hz hxn hzn
      have HRB := Lib.hid RB
      obtain ⟨e, ho1, _⟩ := rowB_open RB
      obtain ⟨gl, cap, ev, hgl, hgl2, _⟩ := own_form ho1 (by omega)
      cases ev
      clear RB
      have HO1 := Lib.hid ho1
      clear ho1
      have kr_c0 := kr.here.cell 0 _ rfl
      have kr_c1 := kr.here.cell 1 _ rfl
      have kr_c2 := kr.here.cell 2 _ rfl
      have kr_c3 := kr.here.cell 3 _ rfl
      have kr_c4 := kr.here.cell 4 _ rfl
      go_wp2_with fail
      clear kr_c0 kr_c1 kr_c2 kr_c3 kr_c4
      refine (copyRate_any _ r _ hlr (OEr.out _ bb4)).mono ?_
      rintro e w5 ⟨u2, Sn, rfl, on, ln, b5⟩
      obtain ⟨An, cn, rfl⟩ := ownE_form on.here
      obtain ⟨orow, _⟩ := newE_own on ln
      have bb5 := Below.next bb4 b5
      replace kt := kt.below b5
      replace kr := kr.below b5
      replace ko := ko.below b5
      have ho5 := own_below HO1.out b5
      have hfl : (flatE e).length = t.2.length * 5 := ho5.1
      have hcell0 := ho5.cellAt (n * 5) (by omega)
      rw [List.getElem?_eq_getElem (by omega)] at hcell0
      have hfr0 := ho5.frozenAt (n * 5)
      have hcell1 := ho5.cellAt (n * 5 + 1) (by omega)
      rw [List.getElem?_eq_getElem (by omega)] at hcell1
      have hfr1 := ho5.frozenAt (n * 5 + 1)
      have hcell2 := ho5.cellAt (n * 5 + 2) (by omega)
      rw [List.getElem?_eq_getElem (by omega)] at hcell2
      have hfr2 := ho5.frozenAt (n * 5 + 2)
      have hcell3 := ho5.cellAt (n * 5 + 3) (by omega)
      rw [List.getElem?_eq_getElem (by omega)] at hcell3
      have hfr3 := ho5.frozenAt (n * 5 + 3)
      have hcell4 := ho5.cellAt (n * 5 + 4) (by omega)
      rw [List.getElem?_eq_getElem (by omega)] at hcell4
      have hfr4 := ho5.frozenAt (n * 5 + 4)
      have hch : Chg [gl] w5 (((((w5.setCell ⟨gl, n * 5, none⟩ (.string r.1)).setCell ⟨gl, n * 5 + 1, none⟩ (.string r.2.1)).setCell ⟨gl, n * 5 + 2, none⟩ (.bool r.2.2.1.1)).setCell ⟨gl, n * 5 + 3, none⟩ (.slice An r.2.2.1.2.length cn)).setCell ⟨gl, n * 5 + 4, none⟩ (.int .i64 r.2.2.2)) := (((((Chg.refl _ _).setCell (by simp) _).setCell (by simp) _).setCell (by simp) _).setCell (by simp) _).setCell (by simp) _
      have RN0 := rowB_set (x := r) HRB.out hnl (fun i hi => b5.block i hi) (Nat.le_refl _) orow hW1
      have RN : RowB w1.heap.size (.slice (some ⟨gl, 0, none⟩) t.2.length c1) (newT t r).2 (((((w5.setCell ⟨gl, n * 5, none⟩ (.string r.1)).setCell ⟨gl, n * 5 + 1, none⟩ (.string r.2.1)).setCell ⟨gl, n * 5 + 2, none⟩ (.bool r.2.2.1.1)).setCell ⟨gl, n * 5 + 3, none⟩ (.slice An r.2.2.1.2.length cn)).setCell ⟨gl, n * 5 + 4, none⟩ (.int .i64 r.2.2.2)) := by rw [NE]; exact RN0
      replace kt := kt.chg hch (fun i hi hm => by simp at hi hm; omega)
      replace ko := ko.chg hch (fun i hi hm => by simp at hi hm; omega)
      have bbN := below_chg bb5 hch bb5.size (fun i hi => by simp at hi; omega)
      have hW1 : w1.heap.size ≤ ((((((w5.setCell ⟨gl, n * 5, none⟩ (.string r.1)).setCell ⟨gl, n * 5 + 1, none⟩ (.string r.2.1)).setCell ⟨gl, n * 5 + 2, none⟩ (.bool r.2.2.1.1)).setCell ⟨gl, n * 5 + 3, none⟩ (.slice An r.2.2.1.2.length cn)).setCell ⟨gl, n * 5 + 4, none⟩ (.int .i64 r.2.2.2))).heap.size := by have := hch.size; have := b5.size; omega
      obtain ⟨W5, hW5⟩ : ∃ W5, W5 = (((((w5.setCell ⟨gl, n * 5, none⟩ (.string r.1)).setCell ⟨gl, n * 5 + 1, none⟩ (.string r.2.1)).setCell ⟨gl, n * 5 + 2, none⟩ (.bool r.2.2.1.1)).setCell ⟨gl, n * 5 + 3, none⟩ (.slice An r.2.2.1.2.length cn)).setCell ⟨gl, n * 5 + 4, none⟩ (.int .i64 r.2.2.2)) := ⟨_, rfl⟩
      rw [← hW5] at RN kt ko bbN hW1
      have HW5 := Lib.hid hW5
      clear hW5 hch RN0 on ln orow kr b5 ho5 HRB HO1
      go_upto_region 8 with fail
      rw [← HW5.out]
      clear hcell0 hfr0 hcell1 hfr1 hcell2 hfr2 hcell3 hfr3 hcell4 hfr4 hz1 hfl
      have hNlen : (newT t r).2.length = t.2.length := by rw [NE]; exact List.length_set ..
      rw [← hNlen] at RN ⊢
      clear hNlen
      have hN1 : (newT t r).1 = t.1 := by rw [NE]
      have hNl := newT_len t r
      have hNx := newT_all (r := r) hx hlr
      obtain ⟨SN, on, _, ln⟩ := rowB_at RN
      have HRN := Lib.hid (show ∀ W', Below W5.heap.size W5 W' → OwnER W' _ (newT t r).2 from fun W' h => (RN.below h).own.ownR)
      clear NE RN
      generalize newT t r = N at *
      obtain ⟨n1, nl⟩ := N
      dsimp only at *
      rw [← hN1] at kt
      clear hN1
      have kt_c0 := kt.here.cell 0 _ rfl
      have kt_c1 := kt.here.cell 1 _ rfl
      go_upto_region 9 with fail
      clear kt_c0 kt_c1
      clear kt
      have kp := box_new (W5) #[.string n1, .slice (some ⟨gl, 0, none⟩) nl.length c1] 46
      have alp := below_al (Below.refl (W5).heap.size (W5)) (.cells #[.string n1, .slice (some ⟨gl, 0, none⟩) nl.length c1] 46)
      have bbp := Below.next bbN alp
      replace ko := ko.below alp
      replace on := on.below alp
      have HRN2 := Lib.hid (show ∀ W', Below (W5.alloc (.cells #[.string n1, .slice (some ⟨gl, 0, none⟩) nl.length c1] 46)).heap.size (W5.alloc (.cells #[.string n1, .slice (some ⟨gl, 0, none⟩) nl.length c1] 46)) W' → OwnTR W' (.agg #[.string n1, .slice (some ⟨gl, 0, none⟩) nl.length c1]) (n1, nl) from fun W' h => ⟨_, rfl, HRN.out _ ((below_al (Below.refl _ _) _).trans (h.mono (by simp)))⟩)
      have hzW : (W5.alloc (.cells #[.string n1, .slice (some ⟨gl, 0, none⟩) nl.length c1] 46)).heap.size = W5.heap.size + 1 := by simp
      have kp_c0 := kp.here.cell 0 _ rfl
      have kp_c1 := kp.here.cell 1 _ rfl
      go_wp2_with fail
      clear kp_c0 kp_c1
      refine (implRatesOk_any _ (n1, nl) _ (by dsimp only; omega) hNx (HRN2.out _ (Below.refl _ _)) (HT.out.below bbp)).mono ?_
      rintro e wf ⟨rfl, bf⟩
      have bbf := Below.next bbp bf
      replace ko := ko.below bf
      replace on := on.below bf
      replace kp := kp.below bf
      by_cases okn : okT (n1, nl) = true
      · have HV := Lib.hid (HP.out.trans (if_pos okn))
        rw [okn]
        clear okn
        have HW := Lib.hid (newTb_at (r := w.heap.size + 1 + 1) (b := true) (x := (n1, nl)) (B := w1.heap.size) (on.imp fun _ h => (⟨_, rfl, h⟩ : OwnT (.agg #[.string n1, .slice (some ⟨gl, 0, none⟩) nl.length c1]) (n1, nl) _)) (fun i hi => ⟨(ln i hi).1, on.lt i hi⟩) (by omega) (by omega) bbf)
        have cz0 := ko.here.cell 0 _ rfl
        have fz0 := Lib.frozen_of_heap ko.here 0
        have cz1 := ko.here.cell 1 _ rfl
        have fz1 := Lib.frozen_of_heap ko.here 1
        have cp0 := kp.here.cell 0 _ rfl
        have cp1 := kp.here.cell 1 _ rfl
        have hnp1 : ¬ W5.heap.size = w.heap.size + 1 + 1 := by omega
        have hnp2 : ¬ w.heap.size + 1 + 1 = W5.heap.size := fun e => hnp1 e.symm
        clear kp ko on
        go_wp2
        refine bodyPost_ret (v := .tuple #[.agg #[.string n1, .slice (some ⟨gl, 0, none⟩) nl.length c1], .bool true]) (by simp [results, Tryd.results18, go_sem, cz0, cz1]) rfl ?_
        rw [HV.out]
        exact HW.out
      · have okn' : okT (n1, nl) = false := by simpa using okn
        have HV := Lib.hid (HP.out.trans (if_neg okn))
        rw [okn']
        clear okn okn'
        have cz0 := ko.here.cell 0 _ rfl
        have fz0 := Lib.frozen_of_heap ko.here 0
        have cz1 := ko.here.cell 1 _ rfl
        have fz1 := Lib.frozen_of_heap ko.here 1
        clear ko on kp
        go_wp2
        refine bodyPost_ret (v := .tuple #[.agg #[.string ⟨#[]⟩, .slice none 0 0], .bool false]) (by simp [results, Tryd.results18, go_sem, cz0, cz1]) rfl ?_
        rw [HV.out]
        first | exact newTb_zero _ bbf | exact newTb_zero _ (below_set2 bbf (by omega))
  · have ok' : okT t = false := by simpa using ok
    have HV := Lib.hid (putT_bad (r := r) ok)
    rw [ok']
    clear ok ok'
    have cz0 := ko.here.cell 0 _ rfl
    have fz0 := Lib.frozen_of_heap ko.here 0
    have cz1 := ko.here.cell 1 _ rfl
    have fz1 := Lib.frozen_of_heap ko.here 1
    clear kt kr ko
    go_wp2
    refine bodyPost_ret (v := .tuple #[.agg #[.string ⟨#[]⟩, .slice none 0 0], .bool false]) (by simp [results, Tryd.results18, go_sem, cz0, cz1]) rfl ?_
    rw [HV.out]
    first | exact newTb_zero _ bb1 | exact newTb_zero _ (below_set2 bb1 (by omega))
end Go.Proofs.YtbpfabicampdkaaDoor

namespace Go.Proofs.YtbpfabicampdkaaDoor
open Go.RowKit

theorem mkS_back {x : SI} (h : okS x = true) : mkS x.1 (trimL x.2) = x := by
  have hp := okS_parts h
  have hl : x.2.length ≤ 50 := (natOk_parts hp.1).2.1
  rw [ok_trimL hp.1, ← natOk_limbs hp.1]
  unfold mkS capL
  rw [if_neg (by omega)]
  obtain ⟨b, xs⟩ := x
  cases b
  · rfl
  · rw [decide_eq_true (hp.2 rfl)]; rfl
theorem okE_mk {r : EI} (h : okE r = true) : mkS r.2.2.1.1 (trimL r.2.2.1.2) = r.2.2.1 := by
  have hd := (okE_parts h).2.2.2.1
  unfold okD at hd
  rw [Bool.and_eq_true] at hd
  exact mkS_back hd.1
theorem makeE {q x : SI} (e : q = x) {w w' : World} {n : Ending} (h : NewS q w n w') : NewV (fun v => OwnS v x) w n w' := by rw [e] at h; exact h.newV
theorem makeRate_any (r : EI) (hm : mkS r.2.2.1.1 (trimL r.2.2.1.2) = r.2.2.1) (hl : r.2.2.1.2.length ≤ 1048576) (v : Value) (w : World) (h : OwnI v r.2.2.1.2 w) : Calls Tryd.prog 60 #[.bool r.2.2.1.1, v] w (NewV (fun u => OwnS u r.2.2.1) w) :=
  (l04Make_any r.2.2.1.1 v r.2.2.1.2 0 w hl h).mono fun _ _ h => makeE hm h
set_option maxHeartbeats 8000000 in
set_option maxRecDepth 100000 in
theorem l10Rate_any (vr : Value) (r : EI) (w : World) (ok : okE r = true) (hr : OwnE vr r w) :
    Calls Tryd.prog 39 #[vr] w (NewV (fun v => OwnE v r) w) := by
  have HM := Lib.hid (okE_mk ok)
  have hl : r.2.2.1.2.length ≤ 1048576 := by have := (okE_parts ok).2.2.2.2.2; omega
  clear ok
  have Hr := Lib.hid hr
  obtain ⟨Ar, cr, rfl⟩ := ownE_form hr
  have OEr := Lib.hid (show ∀ W, Below w.heap.size w W → OwnE (.agg #[.string r.1, .string r.2.1, .bool r.2.2.1.1, .slice Ar r.2.2.1.2.length cr, .int .i64 r.2.2.2]) r W from fun W hb => OwnE.below Hr.out hb)
  have OIr := Lib.hid (show ∀ W, Below w.heap.size w W → OwnI (.slice Ar r.2.2.1.2.length cr) r.2.2.1.2 W from fun W hb => ownE_open (OEr.out W hb))
  have ODr := Lib.hid (show ∀ W, Below w.heap.size w W → OwnD (.agg #[.bool r.2.2.1.1, .slice Ar r.2.2.1.2.length cr, .int .i64 r.2.2.2]) r.2.2 W from fun W hb => OwnD.mk (OIr.out W hb))
  have OSr := Lib.hid (show ∀ W, Below w.heap.size w W → OwnS (.agg #[.bool r.2.2.1.1, .slice Ar r.2.2.1.2.length cr]) r.2.2.1 W from fun W hb => OwnS.mk (OIr.out W hb))
  clear hr
  have bb0 : Below w.heap.size w ((w.alloc (.cells #[.string r.1, .string r.2.1, .bool r.2.2.1.1, .slice Ar r.2.2.1.2.length cr, .int .i64 r.2.2.2] 35)).alloc (.cells #[.string ⟨#[]⟩, .string ⟨#[]⟩, .bool false, .slice none 0 0, .int .i64 0] 35)) := below_al (below_al (Below.refl _ _) _) _
  have kr := (box_new w #[.string r.1, .string r.2.1, .bool r.2.2.1.1, .slice Ar r.2.2.1.2.length cr, .int .i64 r.2.2.2] 35).below (below_al (Below.refl _ _) (.cells #[.string ⟨#[]⟩, .string ⟨#[]⟩, .bool false, .slice none 0 0, .int .i64 0] 35))
  have ko := (box_new (w.alloc (.cells #[.string r.1, .string r.2.1, .bool r.2.2.1.1, .slice Ar r.2.2.1.2.length cr, .int .i64 r.2.2.2] 35)) #[.string ⟨#[]⟩, .string ⟨#[]⟩, .bool false, .slice none 0 0, .int .i64 0] 35)
  rw [show (w.alloc (.cells #[.string r.1, .string r.2.1, .bool r.2.2.1.1, .slice Ar r.2.2.1.2.length cr, .int .i64 r.2.2.2] 35)).heap.size = w.heap.size + 1 by simp] at ko
  have HKO := Lib.hid (ko.lt (w.heap.size + 1) (by simp))
  go_enter Tryd.func39, Tryd.ntmps39
  have kr_c0 := kr.here.cell 0 _ rfl
  have kr_c1 := kr.here.cell 1 _ rfl
  have kr_c2 := kr.here.cell 2 _ rfl
  have kr_c3 := kr.here.cell 3 _ rfl
  have kr_c4 := kr.here.cell 4 _ rfl
  go_upto_region 1 with fail
  clear kr_c0 kr_c1 kr_c2 kr_c3 kr_c4
  obtain ⟨w0, hw0⟩ : ∃ W, W = ((w.alloc (.cells #[.string r.1, .string r.2.1, .bool r.2.2.1.1, .slice Ar r.2.2.1.2.length cr, .int .i64 r.2.2.2] 35)).alloc (.cells #[.string ⟨#[]⟩, .string ⟨#[]⟩, .bool false, .slice none 0 0, .int .i64 0] 35)) := ⟨_, rfl⟩
  have HW0 := Lib.hid (show w.heap.size + 1 + 1 = w0.heap.size by rw [hw0]; simp)
  rw [← hw0] at kr ko bb0 HKO ⊢
  clear hw0
  have HC0 := Lib.hid (show Chg [w.heap.size + 1] w0 w0.drew from (Chg.refl _ _).drew1)
  have HCr := Lib.hid (show Chg [w.heap.size + 1] w0 w0 from Chg.refl _ _)
  have KL := Lib.hid (show ∀ W, Chg [w.heap.size + 1] w0 W → W.cell? ⟨w.heap.size, 0, none⟩ = some (.string r.1) ∧ W.cell? ⟨w.heap.size, 1, none⟩ = some (.string r.2.1) ∧ W.cell? ⟨w.heap.size, 2, none⟩ = some (.bool r.2.2.1.1) ∧ W.cell? ⟨w.heap.size, 3, none⟩ = some (.slice Ar r.2.2.1.2.length cr) ∧ W.cell? ⟨w.heap.size, 4, none⟩ = some (.int .i64 r.2.2.2) ∧ Hid (Chg [w.heap.size + 1] w0 W) from fun W hc => ⟨(kr.chg hc (fun i hi hm => by simp at hi hm; omega)).here.cell 0 _ rfl, (kr.chg hc (fun i hi hm => by simp at hi hm; omega)).here.cell 1 _ rfl, (kr.chg hc (fun i hi hm => by simp at hi hm; omega)).here.cell 2 _ rfl, (kr.chg hc (fun i hi hm => by simp at hi hm; omega)).here.cell 3 _ rfl, (kr.chg hc (fun i hi hm => by simp at hi hm; omega)).here.cell 4 _ rfl, Lib.hid hc⟩)
  have BBF := Lib.hid (show ∀ W, Chg [w.heap.size + 1] w0 W → Below w.heap.size w W from fun W hc => below_chg bb0 hc bb0.size (fun i hi => by simp at hi; omega))
  go_region_held3 (fun W => W.cell? ⟨w.heap.size, 0, none⟩ = some (.string r.1) ∧ W.cell? ⟨w.heap.size, 1, none⟩ = some (.string r.2.1) ∧ W.cell? ⟨w.heap.size, 2, none⟩ = some (.bool r.2.2.1.1) ∧ W.cell? ⟨w.heap.size, 3, none⟩ = some (.slice Ar r.2.2.1.2.length cr) ∧ W.cell? ⟨w.heap.size, 4, none⟩ = some (.int .i64 r.2.2.2) ∧ Hid (Chg [w.heap.size + 1] w0 W))
    ((refine KL.out _ ?_; (repeat with_reducible refine Chg.setCell ?_ (by simp) _); (first | with_reducible exact HC1.out | with_reducible exact HCr.out | with_reducible exact HC0.out | with_reducible exact HC1.out.drew1 | with_reducible exact HCr.out.drew1 | with_reducible exact HC0.out.drew1 | fail)))
    (first
      | (go_at_call 60; (have hBB := (‹_ ∧ _ ∧ _ ∧ _ ∧ _ ∧ Hid (Chg [w.heap.size + 1] w0 _)›).2.2.2.2.2); (with_reducible refine (makeRate_any r HM.out hl _ _ (OIr.out _ (BBF.out _ hBB.out))).mono ?_); rintro e w1 ⟨us, Ss, rfl, os, ls, b1⟩; have HC1 := Lib.hid (hBB.out.trans (Chg.of_below b1)); (have ko_1 := At.below (by first | exact ko | exact At.below ko (below_al (Below.refl _ _) _) | exact At.below (At.below ko (below_al (Below.refl _ _) _)) (below_al (Below.refl _ _) _) | exact At.move ko (fun _ _ => rfl) (Nat.le_refl _)) b1); obtain ⟨As, cs, rfl⟩ := ownS_form os.here; have cz0 := ko_1.here.cell 0 _ rfl; have fz0 := Lib.frozen_of_heap ko_1.here 0; have cz1 := ko_1.here.cell 1 _ rfl; have fz1 := Lib.frozen_of_heap ko_1.here 1; have cz2 := ko_1.here.cell 2 _ rfl; have fz2 := Lib.frozen_of_heap ko_1.here 2; have cz3 := ko_1.here.cell 3 _ rfl; have fz3 := Lib.frozen_of_heap ko_1.here 3; have cz4 := ko_1.here.cell 4 _ rfl; have fz4 := Lib.frozen_of_heap ko_1.here 4; have HBZ1 := Lib.hid hBB.out.size; clear hBB))
  all_goals
    have bb1 := BBF.out _ HC1.out
    replace kr := kr.chg HC1.out (fun i hi hm => by simp at hi hm; omega)
    replace ko := ko_1
    have hz1 : w.heap.size + 1 < w1.heap.size := by have h1 := HKO.out; have h2 := HBZ1.out; have h3 := b1.size; simp at h1 h3 ⊢; have h4 := bb0.size; omega
    have HW := Lib.hid (newV_chgM (φ := fun v => OwnE v r) (v := .agg #[.string r.1, .string r.2.1, .bool r.2.2.1.1, .slice As r.2.2.1.2.length cs, .int .i64 r.2.2.2]) (T := [w.heap.size + 1]) (os.imp fun _ h => (OwnE.mk (ownS_openD h) : OwnE _ r _)) (fun i hi hm => by have := (ls i hi).1; have h4 := HW0.out; simp at this hm; omega) (fun i hi => by simp at hi; omega) (fun i hi => by have := (ls i hi).1; have h4 := HW0.out; simp at this; omega) bb1)
    clear os ls ko kr
    go_wp2
    refine bodyPost_ret (v := .agg #[.string r.1, .string r.2.1, .bool r.2.2.1.1, .slice As r.2.2.1.2.length cs, .int .i64 r.2.2.2]) (by simp [results, Tryd.results39, go_sem, cz0, cz1, cz2, cz3, cz4]) rfl ?_
    refine HW.out _ ?_
    repeat (first | with_reducible exact Chg.refl _ _ | with_reducible refine Chg.setCell ?_ (by simp) _)
end Go.Proofs.YtbpfabicampdkaaDoor

namespace Go.Proofs.YtbpfabicampdkaaDoor
open Go.RowKit

/-- a table of the call's own, and the memory of old -/
theorem RowB.low {B B' : Nat} {u : Value} {l : List EI} {w : World} (h : RowB B u l w) (hB : B' ≤ B) : RowB B' u l w := by
  obtain ⟨e, h1, h2, h3, h4⟩ := h
  refine ⟨e, own_lowE h1 hB, h2, fun j x p hx hp => ?_, h4⟩
  obtain ⟨a1, a2, a3, a4, a5⟩ := h3 j x p hx hp
  exact ⟨a1, a2, a3, a4, own_low a5 hB⟩
theorem boxT_put {g : Nat} {a u v : Value} {T : TypeId} {w : World} (h : At [g] (BoxAt g #[a, u] T) w) : At [g] (BoxAt g #[a, v] T) (w.setCell ⟨g, 1, none⟩ v) :=
  box_at (by
    have hb : w.heap[g]? = some (.cells #[a, u] T (0, 0)) := h.here
    show (w.setCell ⟨g, 1, none⟩ v).heap[g]? = _
    simp [World.setCell, Array.getElem?_modify, hb])
theorem At.lowB {S : List Nat} {φ : World → Prop} {w w' : World} {B : Nat} (h : At S φ w) (hb : Below B w w') (hS : ∀ g ∈ S, g < B) : At S φ w' := h.move (fun g hg => hb.block g (hS g hg)) hb.size
/-- the world behind the literal and the append -/
theorem below_app2 {w w2 w3 : World} {B : Nat} {v : Value} {o : Obj} (hB : B ≤ w.heap.size) (b2 : Below w.heap.size w w2) (hg : (w2.alloc o).grownBy w3 v.ownBlock) (hv : ∀ b, v.ownBlock = some b → B ≤ b) : Below B w w3 :=
  ((b2.mono hB).alloc (Nat.le_trans hB b2.size) o).grown hg (Nat.le_trans hB (Nat.le_trans b2.size (by simp))) hv
theorem take_snocS {l : List EI} {k : Nat} {x : EI} (h : l[k]? = some x) : l.take (k + 1) = l.take k ++ [x] := by
  have hj := (List.getElem?_eq_some_iff.1 h).1
  rw [List.take_succ_eq_append_getElem hj, (List.getElem?_eq_some_iff.1 h).2]
/-- the cells of a row behind one appended element -/
theorem rowB_next {B : Nat} {l : List EI} {e : List CE} {x : EI} {uv un v2 : Value} {w w2 w3 : World} {o : Obj} {k : Nat} {xs : List Value}
    (hnext : ∀ (W1 W2 : World) (N : Nat) (x : EI) (un v2 : Value), (∀ i, i < w.heap.size → W1.heap[i]? = w.heap[i]?) → w.heap.size ≤ N → B ≤ N → W1.ownsRow N 3 1 un x.2.2.1.2.length (intsV x.2.2.1.2) →
    W2.ownsRow B 35 5 v2 (l.length + 1) (flatE e ++ [.string x.1, .string x.2.1, .bool x.2.2.1.1, un, .int .i64 x.2.2.2]) → W1.grownBy W2 uv.ownBlock → RowB B v2 (l ++ [x]) W2)
    (b2 : Below w.heap.size w w2) (hB : B ≤ w.heap.size) (orow : w2.ownsRow w.heap.size 3 1 un x.2.2.1.2.length (intsV x.2.2.1.2)) (hk : l.length = k) (hxs : xs = [.string x.1, .string x.2.1, .bool x.2.2.1.1, un, .int .i64 x.2.2.2])
    (ho : w3.ownsRow B 35 5 v2 (k + 1) (flatE e ++ xs)) (hg : (w2.alloc o).grownBy w3 uv.ownBlock) : RowB B v2 (l ++ [x]) w3 := by
  subst hk
  subst hxs
  exact hnext _ w3 _ x _ v2 (fun i hi => (((Below.refl w2.heap.size w2).alloc (Nat.le_refl _) _).block i (Nat.lt_of_lt_of_le hi b2.size)).trans (b2.block i hi)) (Nat.le_refl _) hB (own_alloc orow o) ho hg
def PostCp (t : TI) (w : World) (e : Ending) (w' : World) : Prop := ∃ u, e = .returned (.agg #[.string t.1, u]) ∧ RowB w.heap.size u t.2 w' ∧ Below w.heap.size w w'
set_option maxHeartbeats 8000000 in
set_option maxRecDepth 100000 in
theorem l10Copy_any (v : Value) (t : TI) (w : World) (hl : t.2.length ≤ 1048576) (hx : ∀ x ∈ t.2, okE x = true) (h : OwnTR w v t) :
    Calls Tryd.prog 38 #[v] w (PostCp t w) := by
  obtain ⟨i0, hi0, hq0, hq1, hq2⟩ := info_parts infoEL
  obtain ⟨Aq, cq, rfl, hrt⟩ := ownTR_form h
  obtain ⟨A', c', e', hc⟩ := hrt
  injection e' with e1 e2 e3
  subst e1
  clear e2 e3 c' h
  have HC := Lib.hid hc
  clear hc
  have bb0 : Below w.heap.size w ((w.alloc (.cells #[.string t.1, .slice Aq t.2.length cq] 46)).alloc (.cells #[.string ⟨#[]⟩, .slice none 0 0] 46)) := below_al (below_al (Below.refl _ _) _) _
  have kt := (box_new w #[.string t.1, .slice Aq t.2.length cq] 46).below (below_al (Below.refl _ _) (.cells #[.string ⟨#[]⟩, .slice none 0 0] 46))
  have ko := (box_new (w.alloc (.cells #[.string t.1, .slice Aq t.2.length cq] 46)) #[.string ⟨#[]⟩, .slice none 0 0] 46)
  rw [show (w.alloc (.cells #[.string t.1, .slice Aq t.2.length cq] 46)).heap.size = w.heap.size + 1 by simp] at ko
  have kp := box_new (((w.alloc (.cells #[.string t.1, .slice Aq t.2.length cq] 46)).alloc (.cells #[.string ⟨#[]⟩, .slice none 0 0] 46))) #[.string t.1, .slice none 0 0] 46
  have alp := below_al (Below.refl (((w.alloc (.cells #[.string t.1, .slice Aq t.2.length cq] 46)).alloc (.cells #[.string ⟨#[]⟩, .slice none 0 0] 46))).heap.size (((w.alloc (.cells #[.string t.1, .slice Aq t.2.length cq] 46)).alloc (.cells #[.string ⟨#[]⟩, .slice none 0 0] 46)))) (.cells #[.string t.1, .slice none 0 0] 46)
  have bbp := Below.next bb0 alp
  replace kt := kt.below alp
  replace ko := ko.below alp
  rw [show ((w.alloc (.cells #[.string t.1, .slice Aq t.2.length cq] 46)).alloc (.cells #[.string ⟨#[]⟩, .slice none 0 0] 46)).heap.size = w.heap.size + 1 + 1 by simp] at kp
  go_enter Tryd.func38, Tryd.ntmps38
  have kt_c0 := kt.here.cell 0 _ rfl
  have kt_c1 := kt.here.cell 1 _ rfl
  go_wp2
  clear kt_c0 kt_c1
  clear kt
  go_loopw [12] (fun i wr => ∃ (k : Nat) (uv : Value), k ≤ t.2.length ∧ i = .int .i64 k ∧ At [w.heap.size + 1] (BoxAt (w.heap.size + 1) #[.string ⟨#[]⟩, .slice none 0 0] 46) wr ∧ At [w.heap.size + 1 + 1] (BoxAt (w.heap.size + 1 + 1) #[.string t.1, uv] 46) wr ∧ RowB (w.heap.size + 1 + 1 + 1) uv (t.2.take k) wr ∧ w.heap.size + 1 + 1 + 1 ≤ wr.heap.size ∧ Below w.heap.size w wr) (fun i _ => t.2.length - (intOf i).toNat)
  case atStart => exact ⟨0, _, Nat.zero_le _, rfl, ko, kp, rowB_nil _ _, by simp, bbp⟩
  case round =>
    clear ko kp bbp
    obtain ⟨k, uv, hk, rfl, ko, kp, RB, hws, hb⟩ := hrel
    by_cases hlt : k < t.2.length
    · obtain ⟨x, hxk⟩ : ∃ x, t.2[k]? = some x := ⟨_, List.getElem?_eq_getElem hlt⟩
      obtain ⟨a, ux, rfl, ha, hc0, hc1, hc2, hc3, hc4, hox⟩ := HC.out k x hxk
      obtain ⟨A1, c1x, rfl⟩ := own_len hox
      have k0 := (cell_keep5' hb ha k).trans hc0
      have k1 := (cell_keep5 hb ha k 1).trans hc1
      have k2 := (cell_keep5 hb ha k 2).trans hc2
      have k3 := (cell_keep5 hb ha k 3).trans hc3
      have k4 := (cell_keep5 hb ha k 4).trans hc4
      have okx := hx x (List.mem_of_getElem? hxk)
      have hbx := below_al (Below.refl wr.heap.size wr) (.cells #[.string x.1, .string x.2.1, .bool x.2.2.1.1, .slice A1 x.2.2.1.2.length c1x, .int .i64 x.2.2.2] 35)
      have kx := box_new wr #[.string x.1, .string x.2.1, .bool x.2.2.1.1, .slice A1 x.2.2.1.2.length c1x, .int .i64 x.2.2.2] 35
      have OX := Lib.hid (show ∀ W, Below (wr.alloc (.cells #[.string x.1, .string x.2.1, .bool x.2.2.1.1, .slice A1 x.2.2.1.2.length c1x, .int .i64 x.2.2.2] 35)).heap.size (wr.alloc (.cells #[.string x.1, .string x.2.1, .bool x.2.2.1.1, .slice A1 x.2.2.1.2.length c1x, .int .i64 x.2.2.2] 35)) W → OwnE (.agg #[.string x.1, .string x.2.1, .bool x.2.2.1.1, .slice A1 x.2.2.1.2.length c1x, .int .i64 x.2.2.2]) x W from fun W h => OwnE.mk (own_below (own_below (own_below hox hb) hbx) h))
      have HTK := Lib.hid (take_snocS hxk)
      have hlk : (t.2.take k).length = k := by rw [List.length_take]; omega
      replace RB := RB.below hbx
      replace ko := ko.below hbx
      replace kp := kp.below hbx
      replace hb := Below.next hb hbx
      have hzx : w.heap.size + 1 + 1 + 1 ≤ (wr.alloc (.cells #[.string x.1, .string x.2.1, .bool x.2.2.1.1, .slice A1 x.2.2.1.2.length c1x, .int .i64 x.2.2.2] 35)).heap.size := by simp; omega
      obtain ⟨e, ho1, hnext⟩ := rowB_open RB
      rw [hlk] at ho1
      have HNX := Lib.hid hnext
      have HO1 := Lib.hid ho1
      have HK := Lib.hid hlk
      have HVB := Lib.hid (show ∀ b, uv.ownBlock = some b → w.heap.size + 1 + 1 + 1 ≤ b from fun b hb => (own_lt ho1 hb).1)
      have HB := Lib.hid hb
      clear hb RB hnext ho1 hlk hc0 hc1 hc2 hc3 hc4 hox ha hxk
      have cx0 := kx.here.cell 0 _ rfl
      have cx1 := kx.here.cell 1 _ rfl
      have cx2 := kx.here.cell 2 _ rfl
      have cx3 := kx.here.cell 3 _ rfl
      have cx4 := kx.here.cell 4 _ rfl
      clear kx hbx
      go_upto_region 5 with fail
      clear k0 k1 k2 k3 k4
      obtain ⟨wx, hwx⟩ : ∃ W, W = (wr.alloc (.cells #[.string x.1, .string x.2.1, .bool x.2.2.1.1, .slice A1 x.2.2.1.2.length c1x, .int .i64 x.2.2.2] 35)) := ⟨_, rfl⟩
      rw [← hwx] at HNX HO1 HB OX ko kp hzx cx0 cx1 cx2 cx3 cx4 ⊢
      clear hwx
      have KO := Lib.hid ko
      have KP := Lib.hid kp
      have cp0 := kp.here.cell 0 _ rfl
      have cp1 := kp.here.cell 1 _ rfl
      clear ko kp
      go_region_law (first
        | (refine step_append_lies _ (by rfl) _ _ _ (by rfl) (w.heap.size + 1 + 1 + 1) 35 i0 _ 5 72 Tryd.underlying44 hi0 hq0 hq1 hq2 rfl (by decide) uv k (flatE e) (by rfl) (own_alloc (own_below HO1.out b2) _) ⟨w2.heap.size, 0, none⟩ 1 1 [.string x.1, .string x.2.1, .bool x.2.2.1.1, .slice An x.2.2.1.2.length cn, .int .i64 x.2.2.2] (by rfl) (by rfl) hnew.out (by intro u hu; simp at hu; rcases hu with rfl | rfl | rfl | rfl | rfl <;> rfl) (by decide) (by unfold maxLen; omega) (by omega) (by have h2 := b2.size; simp; omega) (w2.heap.size + 1) (by simp) ?_; intro gg cap w3 hown3 hg3 _ _; have HAP := Lib.hid (below_app2 hzx b2 hg3 HVB.out); have kp3 := KP.out.lowB HAP.out (by simp); have cp3 := kp3.here.cell 1 _ rfl; have fp3 := Lib.frozen_of_heap kp3.here 1; have HOW := Lib.hid hown3; have HG := Lib.hid hg3; clear hown3 hg3)
        | (go_simp; go_at_call 39; refine (l10Rate_any _ x _ okx (OX.out _ (Below.refl _ _).drew)).mono ?_; rintro e2 w2 ⟨u2, Sn, rfl, on, ln, b2⟩; obtain ⟨An, cn, rfl⟩ := ownE_form on.here; have ORW := Lib.hid (newE_own on ln).1; replace b2 : Below wx.heap.size wx w2 := (Below.refl _ _).drew.trans b2; have kp2 := KP.out.below b2; have cp2 := kp2.here.cell 1 _ rfl; have fp2 := Lib.frozen_of_heap kp2.here 1; have hl2 := kp2.lt (w.heap.size + 1 + 1) (by simp); have hnew := Lib.hid (five_new w2 (.string x.1) (.string x.2.1) (.bool x.2.2.1.1) (.slice An x.2.2.1.2.length cn) (.int .i64 x.2.2.2) 35); clear on ln))
      all_goals
        have HR3 := Lib.hid (rowB_next HNX.out b2 hzx ORW.out HK.out rfl HOW.out HG.out)
        rw [← HTK.out] at HR3
        have HB3 := Lib.hid (HB.out.trans (HAP.out.mono (by omega)))
        have KO3 := Lib.hid (KO.out.lowB HAP.out (by simp))
        have KP3 := Lib.hid (boxT_put (v := .slice (some ⟨gg, 0, none⟩) (k + 1) cap) kp3)
        clear HOW HG kp2 cp2 fp2 hnew ORW
        go_wp2
        first | go_roundw | skip
        case rel => exact ⟨k + 1, _, by omega, by go_num, KO3.out.chg (T := [w.heap.size + 1 + 1]) ((Chg.refl _ _).setCell (by simp) _) (by simp), KP3.out, HR3.out.stays fun i hi _ => Below.heap_setCell _ _ _ _ (by show i ≠ w.heap.size + 1 + 1; omega), by have := HAP.out.size; simp; omega, HB3.out.setCell (p := ⟨w.heap.size + 1 + 1, 1, none⟩) (by show w.heap.size ≤ w.heap.size + 1 + 1; omega) _⟩
        case measure => simp [intOf]; omega
    · obtain rfl : k = t.2.length := by omega
      rw [List.take_length] at RB
      obtain ⟨A2, c2, rfl⟩ := rowB_len RB
      have HW := Lib.hid (show ∀ W, Chg [w.heap.size + 1] wr W → PostCp t w (.returned (.agg #[.string t.1, .slice A2 t.2.length c2])) W from fun W hc => ⟨_, rfl, (RB.stays fun i hi hlt => hc.block i hlt (fun hm => by simp at hm; omega)).low (by omega), below_chg hb hc hb.size (fun i hi => by simp at hi; omega)⟩)
      have cz0 := ko.here.cell 0 _ rfl
      have fz0 := Lib.frozen_of_heap ko.here 0
      have cz1 := ko.here.cell 1 _ rfl
      have fz1 := Lib.frozen_of_heap ko.here 1
      have cp0 := kp.here.cell 0 _ rfl
      have cp1 := kp.here.cell 1 _ rfl
      clear ko kp RB hb HC
      go_wp2
      refine bodyPost_ret (v := .agg #[.string t.1, .slice A2 t.2.length c2]) (by simp [results, Tryd.results38, go_sem, cz0, cz1]) rfl ?_
      refine HW.out _ ?_
      repeat (first | with_reducible exact Chg.refl _ _ | with_reducible refine Chg.setCell ?_ (by simp) _)
end Go.Proofs.YtbpfabicampdkaaDoor

namespace Go.Proofs.YtbpfabicampdkaaDoor
open Go.RowKit

theorem At.app {S : List Nat} {φ : World → Prop} {w w2 w3 : World} {v : Value} {o : Obj} (h : At S φ w) (b2 : Below w.heap.size w w2) (hg : (w2.alloc o).grownBy w3 v.ownBlock) (hS : ∀ g ∈ S, some g ≠ v.ownBlock) : At S φ w3 :=
  h.move (fun g hm => by
    have h1 := h.lt g hm
    have h2 : g < w2.heap.size := Nat.lt_of_lt_of_le h1 b2.size
    exact (hg.block g (Nat.lt_of_lt_of_le h2 (by simp)) (hS g hm)).trans ((((Below.refl w2.heap.size w2).alloc (Nat.le_refl _) o).block g h2).trans (b2.block g h1))) (Nat.le_trans b2.size (Nat.le_trans (by simp) hg.size))
theorem ownBlock_neE {w : World} {B n size b : Nat} {e T : TypeId} {v : Value} {xs : List Value} {cs : Array Value} (h : w.ownsRow B e size v n xs) (hb : w.heap[b]? = some (.cells cs T (0, 0))) (hT : ¬ T = e) (hv : v.ownBlock = some b) : False := by
  obtain ⟨_, ⟨rfl, _⟩ | ⟨g, cap, cur, rfl, _, hh, _⟩⟩ := h
  · cases hv
  · cases hv
    have hh1 : w.heap[g]? = some (.cells cur e (0, 0)) := hh
    rw [hb] at hh1
    injection hh1 with hh1
    injection hh1 with _ e'
    exact hT e'
/-- a store into a block of another type -/
theorem RowB.put {B g j : Nat} {u v : Value} {l : List EI} {w : World} {cs : Array Value} {T : TypeId} (h : RowB B u l w) (hb : w.heap[g]? = some (.cells cs T (0, 0))) (h1 : ¬ T = 35) (h2 : ¬ T = 3) : RowB B u l (w.setCell ⟨g, j, none⟩ v) := by
  obtain ⟨e, a1, a2, a3, a4⟩ := h
  refine ⟨e, own_stays a1 fun i hi => Below.heap_setCell _ _ _ _ (fun hh => ownBlock_neE a1 hb h1 (by rw [← show i = g from hh]; exact hi)), a2, fun k x p hx hp => ?_, a4⟩
  obtain ⟨q1, q2, q3, q4, q5⟩ := a3 k x p hx hp
  exact ⟨q1, q2, q3, q4, own_stays q5 fun i hi => Below.heap_setCell _ _ _ _ (fun hh => ownBlock_neE q5 hb h2 (by rw [← show i = g from hh]; exact hi))⟩
set_option maxHeartbeats 4000000 in
set_option maxRecDepth 100000 in
theorem specRatePut_any (vt vr : Value) (t : TI) (r : EI) (w : World) (hl : t.2.length ≤ 1048576) (hx : ∀ x ∈ t.2, x.2.2.1.2.length ≤ 1048576) (hlr : r.2.2.1.2.length ≤ 1048576) (h : OwnTR w vt t) (hr : OwnE vr r w) :
    Calls Tryd.prog 17 #[vt, vr] w (PostTb (putT t r).1 (putT t r).2 w) := by
  obtain ⟨i0, hi0, hq0, hq1, hq2⟩ := info_parts infoEL
  obtain ⟨At, ct, rfl, hrt⟩ := ownTR_form h
  have HRT := Lib.hid (show ∀ W, Below w.heap.size w W → OwnER W (.slice At t.2.length ct) t.2 from fun W h => hrt.below h)
  have HTR := Lib.hid (show ∀ W, Below w.heap.size w W → OwnTR W (.agg #[.string t.1, .slice At t.2.length ct]) t from fun W h => ⟨_, rfl, hrt.below h⟩)
  clear h hrt
  have Hr := Lib.hid hr
  obtain ⟨Ar, cr, rfl⟩ := ownE_form hr
  have OEr := Lib.hid (show ∀ W, Below w.heap.size w W → OwnE (.agg #[.string r.1, .string r.2.1, .bool r.2.2.1.1, .slice Ar r.2.2.1.2.length cr, .int .i64 r.2.2.2]) r W from fun W hb => OwnE.below Hr.out hb)
  have OIr := Lib.hid (show ∀ W, Below w.heap.size w W → OwnI (.slice Ar r.2.2.1.2.length cr) r.2.2.1.2 W from fun W hb => ownE_open (OEr.out W hb))
  have ODr := Lib.hid (show ∀ W, Below w.heap.size w W → OwnD (.agg #[.bool r.2.2.1.1, .slice Ar r.2.2.1.2.length cr, .int .i64 r.2.2.2]) r.2.2 W from fun W hb => OwnD.mk (OIr.out W hb))
  have OSr := Lib.hid (show ∀ W, Below w.heap.size w W → OwnS (.agg #[.bool r.2.2.1.1, .slice Ar r.2.2.1.2.length cr]) r.2.2.1 W from fun W hb => OwnS.mk (OIr.out W hb))
  clear hr
  have bb0 : Below w.heap.size w (((w.alloc (.cells #[.string t.1, .slice At t.2.length ct] 46)).alloc (.cells #[.string r.1, .string r.2.1, .bool r.2.2.1.1, .slice Ar r.2.2.1.2.length cr, .int .i64 r.2.2.2] 35)).alloc (.cells #[.string ⟨#[]⟩, .slice none 0 0] 46)) := below_al (below_al (below_al (Below.refl _ _) _) _) _
  have kt := (box_new w #[.string t.1, .slice At t.2.length ct] 46).below (below_al (below_al (Below.refl _ _) (.cells #[.string r.1, .string r.2.1, .bool r.2.2.1.1, .slice Ar r.2.2.1.2.length cr, .int .i64 r.2.2.2] 35)) (.cells #[.string ⟨#[]⟩, .slice none 0 0] 46))
  have kr := (box_new (w.alloc (.cells #[.string t.1, .slice At t.2.length ct] 46)) #[.string r.1, .string r.2.1, .bool r.2.2.1.1, .slice Ar r.2.2.1.2.length cr, .int .i64 r.2.2.2] 35).below (below_al (Below.refl _ _) (.cells #[.string ⟨#[]⟩, .slice none 0 0] 46))
  rw [show (w.alloc (.cells #[.string t.1, .slice At t.2.length ct] 46)).heap.size = w.heap.size + 1 by simp] at kr
  have ko := (box_new ((w.alloc (.cells #[.string t.1, .slice At t.2.length ct] 46)).alloc (.cells #[.string r.1, .string r.2.1, .bool r.2.2.1.1, .slice Ar r.2.2.1.2.length cr, .int .i64 r.2.2.2] 35)) #[.string ⟨#[]⟩, .slice none 0 0] 46)
  rw [show ((w.alloc (.cells #[.string t.1, .slice At t.2.length ct] 46)).alloc (.cells #[.string r.1, .string r.2.1, .bool r.2.2.1.1, .slice Ar r.2.2.1.2.length cr, .int .i64 r.2.2.2] 35)).heap.size = w.heap.size + 1 + 1 by simp] at ko
  have HKO := Lib.hid (ko.lt (w.heap.size + 1 + 1) (by simp))
  go_enter Tryd.func17, Tryd.ntmps17
  have kt_c0 := kt.here.cell 0 _ rfl
  have kt_c1 := kt.here.cell 1 _ rfl
  go_wp2_with fail
  clear kt_c0 kt_c1
  refine (specRatesOk_any _ t _ (by omega) hx (HTR.out _ bb0)).mono ?_
  rintro e w1 ⟨rfl, b1⟩
  have bb1 := Below.next bb0 b1
  replace kt := kt.below b1
  replace kr := kr.below b1
  replace ko := ko.below b1
  by_cases ok : okT t = true
  · rw [ok]
    have HP := Lib.hid (putT_good (r := r) ok)
    have HOK := Lib.hid ok
    clear ok
    have hw1 : w.heap.size + 3 ≤ w1.heap.size := by have := b1.size; simp at this; omega
    have kr_c0 := kr.here.cell 0 _ rfl
    have kr_c1 := kr.here.cell 1 _ rfl
    have kr_c2 := kr.here.cell 2 _ rfl
    have kr_c3 := kr.here.cell 3 _ rfl
    have kr_c4 := kr.here.cell 4 _ rfl
    go_wp2_with fail
    clear kr_c0 kr_c1 kr_c2 kr_c3 kr_c4
    refine (specRateOk_any _ r _ hlr (OEr.out _ bb1)).mono ?_
    rintro e w2 ⟨rfl, b2⟩
    have bb2 := Below.next bb1 b2
    replace kt := kt.below b2
    replace kr := kr.below b2
    replace ko := ko.below b2
    by_cases okr : okE r = true
    · rw [okr]
      have HOR := Lib.hid okr
      clear okr
      have kt_c0 := kt.here.cell 0 _ rfl
      have kt_c1 := kt.here.cell 1 _ rfl
      go_wp2_with fail
      clear kt_c0 kt_c1
      refine (l10Copy_any _ t _ (by omega) (fun x hx => okT_mem' HOK.out hx) (HTR.out _ bb2)).mono ?_
      rintro e w3 ⟨u1, rfl, RB0, b3⟩
      obtain ⟨A1, c1, rfl⟩ := rowB_len RB0
      have RB := RB0.low (show w1.heap.size ≤ w2.heap.size from b2.size)
      have HVL := Lib.hid (show ∀ b, (Value.slice A1 t.2.length c1).ownBlock = some b → b < w3.heap.size from fun b hb => by obtain ⟨e, h1, _⟩ := RB0; exact (own_lt h1 hb).2)
      clear RB0
      have bb3 := Below.next bb2 b3
      replace kt := kt.below b3
      replace kr := kr.below b3
      replace ko := ko.below b3
      have kc := box_new (w3) #[.string t.1, .slice A1 t.2.length c1] 46
      have alc := below_al (Below.refl (w3).heap.size (w3)) (.cells #[.string t.1, .slice A1 t.2.length c1] 46)
      have bbc := Below.next bb3 alc
      replace kt := kt.below alc
      replace kr := kr.below alc
      replace ko := ko.below alc
      replace RB := RB.below alc
      have hw3 : w1.heap.size ≤ w3.heap.size := Nat.le_trans b2.size b3.size
      have hzc : (w3.alloc (.cells #[.string t.1, .slice A1 t.2.length c1] 46)).heap.size = w3.heap.size + 1 := by simp
      have kt_c0 := kt.here.cell 0 _ rfl
      have kt_c1 := kt.here.cell 1 _ rfl
      have kr_c0 := kr.here.cell 0 _ rfl
      have kr_c1 := kr.here.cell 1 _ rfl
      have kr_c2 := kr.here.cell 2 _ rfl
      have kr_c3 := kr.here.cell 3 _ rfl
      have kr_c4 := kr.here.cell 4 _ rfl
      go_wp2_with fail
      clear kt_c0 kt_c1 kr_c0 kr_c1 kr_c2 kr_c3 kr_c4
      refine (l10At_any _ t.2 r.1 r.2.1 _ (by omega) (HRT.out _ bbc)).mono ?_
      rintro e w4 ⟨rfl, b4⟩
      have bb4 := Below.next bbc b4
      replace kt := kt.below b4
      replace kr := kr.below b4
      replace ko := ko.below b4
      replace RB := RB.below b4
      replace kc := kc.below b4
      have hW1 : w1.heap.size ≤ w4.heap.size := by have := b4.size; omega
      by_cases hz : posE t.2 r.1 r.2.1 < 0
      · have hz1 : decide (0 ≤ posE t.2 r.1 r.2.1) = false := decide_eq_false (by omega)
        have NE := newT_app hz
        clear hz
        obtain ⟨z, hzz⟩ : ∃ z, posE t.2 r.1 r.2.1 = z := ⟨_, rfl⟩
        rw [hzz] at hz1 ⊢
        clear hzz
        obtain ⟨e, ho1, hnext⟩ := rowB_open RB
        have HNX := Lib.hid hnext
        have HO1 := Lib.hid ho1
        have HVB := Lib.hid (show ∀ b, (Value.slice A1 t.2.length c1).ownBlock = some b → w1.heap.size ≤ b from fun b hb => (own_lt ho1 hb).1)
        have HNE := Lib.hid (show ∀ g ∈ [w3.heap.size], some g ≠ (Value.slice A1 t.2.length c1).ownBlock from fun g hg he => by simp at hg; subst hg; have := HVL.out _ he.symm; omega)
        clear RB hnext ho1
        have HBB := Lib.hid bb4
        have KC := Lib.hid kc
        have KO := Lib.hid ko
        have kr_c0 := kr.here.cell 0 _ rfl
        have kr_c1 := kr.here.cell 1 _ rfl
        have kr_c2 := kr.here.cell 2 _ rfl
        have kr_c3 := kr.here.cell 3 _ rfl
        have kr_c4 := kr.here.cell 4 _ rfl
        have kc_c0 := kc.here.cell 0 _ rfl
        have kc_c1 := kc.here.cell 1 _ rfl
        go_upto_region 7 with fail
        clear kr kc ko kt hz1
        go_region_law (first
          | (refine step_append_lies _ (by rfl) _ _ _ (by rfl) w1.heap.size 35 i0 _ 5 72 Tryd.underlying44 hi0 hq0 hq1 hq2 rfl (by decide) (.slice A1 t.2.length c1) t.2.length (flatE e) (by rfl) (own_alloc (own_below HO1.out b5) _) ⟨w5.heap.size, 0, none⟩ 1 1 [.string r.1, .string r.2.1, .bool r.2.2.1.1, .slice An r.2.2.1.2.length cn, .int .i64 r.2.2.2] (by rfl) (by rfl) hnew.out (by intro u hu; simp at hu; rcases hu with rfl | rfl | rfl | rfl | rfl <;> rfl) (by decide) (by unfold maxLen; omega) (by omega) (by have h2 := b5.size; simp; omega) (w5.heap.size + 1) (by simp) ?_; intro gg cap w6 hown3 hg3 _ _; have KC6 := Lib.hid (KC.out.app b5 hg3 HNE.out); have cq1 := KC6.out.here.cell 1 _ rfl; have fq1 := Lib.frozen_of_heap KC6.out.here 1; have HAP := Lib.hid (below_app2 hW1 b5 hg3 HVB.out); have HOW := Lib.hid hown3; have HG := Lib.hid hg3; clear hown3 hg3)
          | (go_simp; go_at_call 39; refine (l10Rate_any _ r _ HOR.out (OEr.out _ HBB.out.drew)).mono ?_; rintro e2 w5 ⟨u2, Sn, rfl, on, ln, b5⟩; obtain ⟨An, cn, rfl⟩ := ownE_form on.here; have ORW := Lib.hid (newE_own on ln).1; replace b5 : Below w4.heap.size w4 w5 := (Below.refl _ _).drew.trans b5; clear on ln; have kc5 := KC.out.below b5; have cp1 := kc5.here.cell 1 _ rfl; have fp1 := Lib.frozen_of_heap kc5.here 1; have hl5 := kc5.lt w3.heap.size (by simp); clear kc5; have hnew := Lib.hid (five_new w5 (.string r.1) (.string r.2.1) (.bool r.2.2.1.1) (.slice An r.2.2.1.2.length cn) (.int .i64 r.2.2.2) 35)))
        all_goals
          have RN0 := rowB_next HNX.out b5 hW1 ORW.out rfl rfl HOW.out HG.out
          have RN1 := RN0.put (j := 1) (v := (.slice (some ⟨gg, 0, none⟩) (t.2.length + 1) cap)) KC6.out.here (by decide) (by decide)
          have kc := boxT_put (v := (.slice (some ⟨gg, 0, none⟩) (t.2.length + 1) cap)) KC6.out
          have hch : Chg [w3.heap.size] w6 (w6.setCell ⟨w3.heap.size, 1, none⟩ (.slice (some ⟨gg, 0, none⟩) (t.2.length + 1) cap)) := (Chg.refl _ _).setCell (by simp) _
          have ko := (KO.out.lowB HAP.out (fun g hg => by simp at hg; omega)).chg hch (fun i hi hm => by simp at hi hm; omega)
          have hap2 := HAP.out.size
          have bbN := below_chg (HBB.out.trans (HAP.out.mono (by omega))) hch (by have := HBB.out.size; omega) (fun i hi => by simp at hi; omega)
          have hW6 : w1.heap.size ≤ (w6.setCell ⟨w3.heap.size, 1, none⟩ (.slice (some ⟨gg, 0, none⟩) (t.2.length + 1) cap)).heap.size := by have := hch.size; omega
          have RN : RowB w1.heap.size (.slice (some ⟨gg, 0, none⟩) (t.2.length + 1) cap) (newT t r).2 (w6.setCell ⟨w3.heap.size, 1, none⟩ (.slice (some ⟨gg, 0, none⟩) (t.2.length + 1) cap)) := by rw [NE]; exact RN1
          have hNlen : (newT t r).2.length = t.2.length + 1 := by rw [NE]; exact List.length_append ..
          rw [← hNlen] at RN kc ko bbN hW6 ⊢
          clear hNlen
          clear hW1
          have hW1 := hW6
          clear RN0 RN1 hch hap2 HOW HG KC6 KC KO HAP HNX HO1 HVB HNE HBB ORW hW6
          obtain ⟨W6, hW6⟩ : ∃ W, W = w6.setCell ⟨w3.heap.size, 1, none⟩ (.slice (some ⟨gg, 0, none⟩) (newT t r).2.length cap) := ⟨_, rfl⟩
          rw [← hW6] at RN kc ko bbN hW1
          try rw [← hW6]
          have HW6 := Lib.hid hW6
          clear hW6
          have hN1 : (newT t r).1 = t.1 := by rw [NE]
          have hNl := newT_len t r
          have hNx := newT_all (r := r) hx hlr
          obtain ⟨SN, on, _, ln⟩ := rowB_at RN
          have HRN := Lib.hid (show ∀ W', Below W6.heap.size W6 W' → OwnER W' _ (newT t r).2 from fun W' h => (RN.below h).own.ownR)
          clear NE RN
          generalize newT t r = N at *
          obtain ⟨n1, nl⟩ := N
          dsimp only at *
          rw [← hN1] at kc
          clear hN1
          have HRN2 := Lib.hid (show ∀ W', Below W6.heap.size W6 W' → OwnTR W' (.agg #[.string n1, .slice (some ⟨gg, 0, none⟩) nl.length cap]) (n1, nl) from fun W' h => ⟨_, rfl, HRN.out _ h⟩)
          have kc_c0 := kc.here.cell 0 _ rfl
          have kc_c1 := kc.here.cell 1 _ rfl
          go_wp2_with fail
          clear kc_c0 kc_c1
          refine (specRatesOk_any _ (n1, nl) _ (by dsimp only; omega) hNx (HRN2.out _ (Below.refl _ _))).mono ?_
          rintro e wf ⟨rfl, bf⟩
          have bbf := Below.next bbN bf
          replace kc := kc.below bf
          replace ko := ko.below bf
          replace on := on.below bf
          by_cases okn : okT (n1, nl) = true
          · have HV := Lib.hid (HP.out.trans (if_pos okn))
            rw [okn]
            clear okn
            have HW := Lib.hid (newTb_at (r := w.heap.size + 1 + 1) (b := true) (x := (n1, nl)) (B := w1.heap.size) (on.imp fun _ h => (⟨_, rfl, h⟩ : OwnT (.agg #[.string n1, .slice (some ⟨gg, 0, none⟩) nl.length cap]) (n1, nl) _)) (fun i hi => ⟨(ln i hi).1, on.lt i hi⟩) (by omega) (by omega) bbf)
            have cz0 := ko.here.cell 0 _ rfl
            have fz0 := Lib.frozen_of_heap ko.here 0
            have cz1 := ko.here.cell 1 _ rfl
            have fz1 := Lib.frozen_of_heap ko.here 1
            have cp0 := kc.here.cell 0 _ rfl
            have cp1 := kc.here.cell 1 _ rfl
            have hnp1 : ¬ w3.heap.size = w.heap.size + 1 + 1 := by omega
            have hnp2 : ¬ w.heap.size + 1 + 1 = w3.heap.size := fun e => hnp1 e.symm
            clear kc ko on
            go_wp2
            refine bodyPost_ret (v := .tuple #[.agg #[.string n1, .slice (some ⟨gg, 0, none⟩) nl.length cap], .bool true]) (by simp [results, Tryd.results17, go_sem, cz0, cz1]) rfl ?_
            rw [HV.out]
            exact HW.out
          · have okn' : okT (n1, nl) = false := by simpa using okn
            have HV := Lib.hid (HP.out.trans (if_neg okn))
            rw [okn']
            clear okn okn'
            have cz0 := ko.here.cell 0 _ rfl
            have fz0 := Lib.frozen_of_heap ko.here 0
            have cz1 := ko.here.cell 1 _ rfl
            have fz1 := Lib.frozen_of_heap ko.here 1
            clear kc ko on
            go_wp2
            refine bodyPost_ret (v := .tuple #[.agg #[.string ⟨#[]⟩, .slice none 0 0], .bool false]) (by simp [results, Tryd.results17, go_sem, cz0, cz1]) rfl ?_
            rw [HV.out]
            first | exact newTb_zero _ bbf | exact newTb_zero _ (below_set2 bbf (by omega))
      · have hz1 : decide (0 ≤ posE t.2 r.1 r.2.1) = true := decide_eq_true (by omega)
        obtain ⟨n, x, hzn, hxn, _⟩ := posE_at (show 0 ≤ posE t.2 r.1 r.2.1 by omega)
        have hnl := (List.getElem?_eq_some_iff.1 hxn).1
        have NE := newT_set hzn
        rw [hzn] at hz1 ⊢
        clear hz hxn hzn
        have HRB := Lib.hid RB
        obtain ⟨e, ho1, _⟩ := rowB_open RB
        obtain ⟨gl, cap, ev, hgl, hgl2, _⟩ := own_form ho1 (by omega)
        cases ev
        clear RB
        have HO1 := Lib.hid ho1
        clear ho1
        have hgl3 := HVL.out gl rfl
        have hn0 : (0 : Int) ≤ (n : Int) := by omega
        have hn1 : (n : Int) < (t.2.length : Int) := by omega
        have HBB := Lib.hid bb4
        have KC := Lib.hid kc
        have KO := Lib.hid ko
        have kr_c0 := kr.here.cell 0 _ rfl
        have kr_c1 := kr.here.cell 1 _ rfl
        have kr_c2 := kr.here.cell 2 _ rfl
        have kr_c3 := kr.here.cell 3 _ rfl
        have kr_c4 := kr.here.cell 4 _ rfl
        have kc_c0 := kc.here.cell 0 _ rfl
        have kc_c1 := kc.here.cell 1 _ rfl
        go_upto_region 6 with fail
        clear kr kc ko kt hz1
        go_region_law (first
          | (go_simp; go_at_call 39; refine (l10Rate_any _ r _ HOR.out (OEr.out _ HBB.out.drew)).mono ?_; rintro e2 w5 ⟨u2, Sn, rfl, on, ln, b5⟩; obtain ⟨An, cn, rfl⟩ := ownE_form on.here; have ORW := Lib.hid (newE_own on ln).1; replace b5 : Below w4.heap.size w4 w5 := (Below.refl _ _).drew.trans b5; clear on ln; have kc5 := KC.out.below b5; have cp1 := kc5.here.cell 1 _ rfl; clear kc5; have ho5 := own_below HO1.out b5; have hfl : (flatE e).length = t.2.length * 5 := ho5.1; have hcell0 := ho5.cellAt (n * 5) (by omega); rw [List.getElem?_eq_getElem (by omega)] at hcell0; have hfr0 := ho5.frozenAt (n * 5); have hcell1 := ho5.cellAt (n * 5 + 1) (by omega); rw [List.getElem?_eq_getElem (by omega)] at hcell1; have hfr1 := ho5.frozenAt (n * 5 + 1); have hcell2 := ho5.cellAt (n * 5 + 2) (by omega); rw [List.getElem?_eq_getElem (by omega)] at hcell2; have hfr2 := ho5.frozenAt (n * 5 + 2); have hcell3 := ho5.cellAt (n * 5 + 3) (by omega); rw [List.getElem?_eq_getElem (by omega)] at hcell3; have hfr3 := ho5.frozenAt (n * 5 + 3); have hcell4 := ho5.cellAt (n * 5 + 4) (by omega); rw [List.getElem?_eq_getElem (by omega)] at hcell4; have hfr4 := ho5.frozenAt (n * 5 + 4); clear ho5))
        all_goals
          clear hcell0 hfr0 hcell1 hfr1 hcell2 hfr2 hcell3 hfr3 hcell4 hfr4 hfl
          have hch : Chg [gl] w5 (((((w5.setCell ⟨gl, n * 5, none⟩ (.string r.1)).setCell ⟨gl, n * 5 + 1, none⟩ (.string r.2.1)).setCell ⟨gl, n * 5 + 2, none⟩ (.bool r.2.2.1.1)).setCell ⟨gl, n * 5 + 3, none⟩ (.slice An r.2.2.1.2.length cn)).setCell ⟨gl, n * 5 + 4, none⟩ (.int .i64 r.2.2.2)) := (((((Chg.refl _ _).setCell (by simp) _).setCell (by simp) _).setCell (by simp) _).setCell (by simp) _).setCell (by simp) _
          have RN0 := rowB_set (x := r) HRB.out hnl (fun i hi => b5.block i hi) (Nat.le_refl _) ORW.out hW1
          have RN : RowB w1.heap.size (.slice (some ⟨gl, 0, none⟩) t.2.length c1) (newT t r).2 (((((w5.setCell ⟨gl, n * 5, none⟩ (.string r.1)).setCell ⟨gl, n * 5 + 1, none⟩ (.string r.2.1)).setCell ⟨gl, n * 5 + 2, none⟩ (.bool r.2.2.1.1)).setCell ⟨gl, n * 5 + 3, none⟩ (.slice An r.2.2.1.2.length cn)).setCell ⟨gl, n * 5 + 4, none⟩ (.int .i64 r.2.2.2)) := by rw [NE]; exact RN0
          have kc := (KC.out.below b5).chg hch (fun i hi hm => by simp at hi hm; omega)
          have ko := (KO.out.below b5).chg hch (fun i hi hm => by simp at hi hm; omega)
          have bbN := below_chg (Below.next HBB.out b5) hch (by have := HBB.out.size; have := b5.size; omega) (fun i hi => by simp at hi; omega)
          replace hW1 : w1.heap.size ≤ ((((((w5.setCell ⟨gl, n * 5, none⟩ (.string r.1)).setCell ⟨gl, n * 5 + 1, none⟩ (.string r.2.1)).setCell ⟨gl, n * 5 + 2, none⟩ (.bool r.2.2.1.1)).setCell ⟨gl, n * 5 + 3, none⟩ (.slice An r.2.2.1.2.length cn)).setCell ⟨gl, n * 5 + 4, none⟩ (.int .i64 r.2.2.2))).heap.size := by have := hch.size; have := b5.size; omega
          obtain ⟨W5, hW5⟩ : ∃ W5, W5 = (((((w5.setCell ⟨gl, n * 5, none⟩ (.string r.1)).setCell ⟨gl, n * 5 + 1, none⟩ (.string r.2.1)).setCell ⟨gl, n * 5 + 2, none⟩ (.bool r.2.2.1.1)).setCell ⟨gl, n * 5 + 3, none⟩ (.slice An r.2.2.1.2.length cn)).setCell ⟨gl, n * 5 + 4, none⟩ (.int .i64 r.2.2.2)) := ⟨_, rfl⟩
          rw [← hW5] at RN kc ko bbN hW1
          try rw [← hW5]
          clear hW5 hch RN0 b5 HRB HO1 KC KO HBB ORW
          have hNlen : (newT t r).2.length = t.2.length := by rw [NE]; exact List.length_set ..
          rw [← hNlen] at RN kc ⊢
          clear hNlen
          have hN1 : (newT t r).1 = t.1 := by rw [NE]
          have hNl := newT_len t r
          have hNx := newT_all (r := r) hx hlr
          obtain ⟨SN, on, _, ln⟩ := rowB_at RN
          have HRN := Lib.hid (show ∀ W', Below W5.heap.size W5 W' → OwnER W' _ (newT t r).2 from fun W' h => (RN.below h).own.ownR)
          clear NE RN
          generalize newT t r = N at *
          obtain ⟨n1, nl⟩ := N
          dsimp only at *
          rw [← hN1] at kc
          clear hN1
          have HRN2 := Lib.hid (show ∀ W', Below W5.heap.size W5 W' → OwnTR W' (.agg #[.string n1, .slice (some ⟨gl, 0, none⟩) nl.length c1]) (n1, nl) from fun W' h => ⟨_, rfl, HRN.out _ h⟩)
          have kc_c0 := kc.here.cell 0 _ rfl
          have kc_c1 := kc.here.cell 1 _ rfl
          go_wp2_with fail
          clear kc_c0 kc_c1
          refine (specRatesOk_any _ (n1, nl) _ (by dsimp only; omega) hNx (HRN2.out _ (Below.refl _ _))).mono ?_
          rintro e wf ⟨rfl, bf⟩
          have bbf := Below.next bbN bf
          replace kc := kc.below bf
          replace ko := ko.below bf
          replace on := on.below bf
          by_cases okn : okT (n1, nl) = true
          · have HV := Lib.hid (HP.out.trans (if_pos okn))
            rw [okn]
            clear okn
            have HW := Lib.hid (newTb_at (r := w.heap.size + 1 + 1) (b := true) (x := (n1, nl)) (B := w1.heap.size) (on.imp fun _ h => (⟨_, rfl, h⟩ : OwnT (.agg #[.string n1, .slice (some ⟨gl, 0, none⟩) nl.length c1]) (n1, nl) _)) (fun i hi => ⟨(ln i hi).1, on.lt i hi⟩) (by omega) (by omega) bbf)
            have cz0 := ko.here.cell 0 _ rfl
            have fz0 := Lib.frozen_of_heap ko.here 0
            have cz1 := ko.here.cell 1 _ rfl
            have fz1 := Lib.frozen_of_heap ko.here 1
            have cp0 := kc.here.cell 0 _ rfl
            have cp1 := kc.here.cell 1 _ rfl
            have hnp1 : ¬ w3.heap.size = w.heap.size + 1 + 1 := by omega
            have hnp2 : ¬ w.heap.size + 1 + 1 = w3.heap.size := fun e => hnp1 e.symm
            clear kc ko on
            go_wp2
            refine bodyPost_ret (v := .tuple #[.agg #[.string n1, .slice (some ⟨gl, 0, none⟩) nl.length c1], .bool true]) (by simp [results, Tryd.results17, go_sem, cz0, cz1]) rfl ?_
            rw [HV.out]
            exact HW.out
          · have okn' : okT (n1, nl) = false := by simpa using okn
            have HV := Lib.hid (HP.out.trans (if_neg okn))
            rw [okn']
            clear okn okn'
            have cz0 := ko.here.cell 0 _ rfl
            have fz0 := Lib.frozen_of_heap ko.here 0
            have cz1 := ko.here.cell 1 _ rfl
            have fz1 := Lib.frozen_of_heap ko.here 1
            clear kc ko on
            go_wp2
            refine bodyPost_ret (v := .tuple #[.agg #[.string ⟨#[]⟩, .slice none 0 0], .bool false]) (by simp [results, Tryd.results17, go_sem, cz0, cz1]) rfl ?_
            rw [HV.out]
            first | exact newTb_zero _ bbf | exact newTb_zero _ (below_set2 bbf (by omega))
    · have okr' : okE r = false := by simpa using okr
      have HV := Lib.hid (show putT t r = (zeroT, false) by unfold putT; rw [if_neg (fun hh => okr hh.2)]; rfl)
      rw [okr']
      clear okr okr'
      have cz0 := ko.here.cell 0 _ rfl
      have fz0 := Lib.frozen_of_heap ko.here 0
      have cz1 := ko.here.cell 1 _ rfl
      have fz1 := Lib.frozen_of_heap ko.here 1
      clear kt kr ko
      go_wp2
      refine bodyPost_ret (v := .tuple #[.agg #[.string ⟨#[]⟩, .slice none 0 0], .bool false]) (by simp [results, Tryd.results17, go_sem, cz0, cz1]) rfl ?_
      rw [HV.out]
      first | exact newTb_zero _ bb2 | exact newTb_zero _ (below_set2 bb2 (by omega))
  · have ok' : okT t = false := by simpa using ok
    have HV := Lib.hid (show putT t r = (zeroT, false) by unfold putT; rw [if_neg (fun hh => ok hh.1)]; rfl)
    rw [ok']
    clear ok ok'
    have cz0 := ko.here.cell 0 _ rfl
    have fz0 := Lib.frozen_of_heap ko.here 0
    have cz1 := ko.here.cell 1 _ rfl
    have fz1 := Lib.frozen_of_heap ko.here 1
    clear kt kr ko
    go_wp2
    refine bodyPost_ret (v := .tuple #[.agg #[.string ⟨#[]⟩, .slice none 0 0], .bool false]) (by simp [results, Tryd.results17, go_sem, cz0, cz1]) rfl ?_
    rw [HV.out]
    first | exact newTb_zero _ bb1 | exact newTb_zero _ (below_set2 bb1 (by omega))
end Go.Proofs.YtbpfabicampdkaaDoor

namespace Go.Proofs.YtbpfabicampdkaaDoor
open Go.ChangeShapes Go.WideShapes Go.ChangeAt Go.RowKit

/-- the three tables, as the rows list them -/
abbrev laid3 : List (String × DataW Unit) := [("math/bits.deBruijn32tab", Rows.laid_math_bits_deBruijn32tab), ("math/bits.deBruijn64tab", Rows.laid_math_bits_deBruijn64tab), ("internal/strconv.uint64pow10", Rows.laid_internal_strconv_uint64pow10)]
theorem powType : (Tryd.prog.globals[2]?).map (·.type) = some 144 := by kernel_rfl
theorem powCells : Tryd.prog.cellsOf 144 = 20 := by kernel_rfl
theorem u64Cells : Tryd.prog.cellsOf 132 = 1 := by kernel_rfl
theorem powData : (Rows.laid_internal_strconv_uint64pow10 : DataW Unit) = Lib.tabData .u64 Lib.pow10Tab := by kernel_rfl

theorem tab_of {W : World} (h : laidMetH Tryd.prog laid3 W) : Tab W := by
  obtain ⟨ps, ⟨_, _, _, _, _, _, _, _, _, _, ⟨_, _, _, _, _, _, _, _, _, _, ⟨g3, t3, cs3, fuel3, p3, q3, hg3, ht3, hvar3, hd3, _, _⟩, _⟩, _⟩, _⟩ := (show laidMet Tryd.prog laid3 W from h)
  obtain rfl := Option.some.inj (powGlobal.symm.trans hg3)
  obtain rfl := Option.some.inj (powType.symm.trans ht3)
  rw [powData] at hd3
  unfold Tab Lib.TabIs
  rw [hvar3, ← Lib.cells_of_tab Tryd.underlying144 Tryd.underlying132 u64Cells powCells hd3]

/-- a world for the witness: the settled one, the tables holding what their initialisers lay -/
def tabCells (k : IntKind) : List (DataW Unit) → List Value
  | .lit (.int _ z) :: r => .int k z :: tabCells k r
  | _ => []
def aggOf : DataW Unit → List (DataW Unit)
  | .agg l => l
  | _ => []
def putCells (cs : Array Value) : Obj → Obj
  | .cells _ t frozen => .cells cs t frozen
  | o => o
noncomputable def laidWorld (os : Os) : World :=
  { World.holding Tryd.prog os ⟨#[], #[], []⟩ with heap := (((World.holding Tryd.prog os ⟨#[], #[], []⟩).heap.modify 3 (putCells (tabCells .u8 (aggOf Rows.laid_math_bits_deBruijn32tab)).toArray)).modify 4 (putCells (tabCells .u8 (aggOf Rows.laid_math_bits_deBruijn64tab)).toArray)).modify 2 (putCells (tabCells .u64 (aggOf Rows.laid_internal_strconv_uint64pow10)).toArray) }

set_option maxRecDepth 100000 in
/-- from the walk at every argument, the table at hand, to the lifted row -/
theorem law_lifted_laid {H : Type} {enc : TypeId × Value → H} {os : Os} (started : os.Started) {F : Stop.Interp} {f : FuncId} {fn : Func} {s : ChangeSpec} {conds : List PathCond} {tb : TypeId}
    (noInit : Tryd.prog.inits.idxOf? f = none) (hfun : Tryd.prog.funcs[f]? = some fn)
    (hr : legible Tryd.prog fn.params.toList = true) (hty : fn.resultTypes = #[tb]) (htb : Tryd.prog.underlying tb = some .bool) (hvars : s.vars = [])
    (witness : ∃ (w : World) (tape : Tape) (i : Input), w.os = os ∧ (w.forCall tape i).Shaped Tryd.checked.prog ∧ i.vars = [] ∧ Input.okWide Tryd.checked.prog (w.forCall tape i) .any w.heap.size f i ∧
      (OpenSpec.ofChange s).preRow enc Tryd.checked.prog fn conds false laid3 (w.forCall tape i).memory i.args ∧ Assume.holds {} Tryd.checked.prog (lone (Frame.enter Tryd.checked.prog f i.args .normal) [] (w.forCall tape i)))
    (walk : ∀ (W : World) (base : Nat) (args : Array Value) (ds : List (DataW H)) (p : List MemPlace),
      (∀ (j : Nat) t v, fn.params[j]? = some t → args[j]? = some v → Value.okWide Tryd.prog W .any base t v) →
      DataW.TrodAll enc Tryd.prog W 0 (fun _ => true) true fn.params.toList args.toList ds p → (∀ x ∈ p, x.block < W.heap.size) → Tab W →
      s.fn H ds = { results := [.lit (.bool true)], args := ds } ∧ Calls Tryd.prog f args W fun e W' => e = .returned (.bool true) ∧ Below W.heap.size W W') :
    ReturnsInHanded {} Tryd.checked os f .any ((OpenSpec.ofChange s).preRow enc Tryd.prog fn conds false laid3) (((OpenSpec.ofChange s).at F).post enc Tryd.prog fn false true false false) := by
  refine returnsInHanded_of_row (C := Tryd.checked) (s := OpenSpec.ofChange s) Tryd.own started noInit hfun witness ?_
  intro W base args ds gs before hval hW0 _ _ _ hL _ _
  have hW : DataW.Whole enc Tryd.prog fn.params.toList s.vars false W args.toList ds gs before := hW0
  have hW' := hW
  obtain ⟨p, q, hA, hV, rfl, _, _⟩ := hW
  rw [hvars] at hV
  obtain ⟨rfl, rfl⟩ := trodVars_none hV
  obtain ⟨hfn, hc⟩ := walk W base args ds p hval hA (fun x hx => hW'.lt x (by simpa using hx)) (tab_of hL)
  refine hc.mono fun e W' ⟨he, hb⟩ => ?_
  subst he
  exact ⟨_, rfl, law_post Tryd.laidOut hr hty htb hvars hfn hW' hb⟩
end Go.Proofs.YtbpfabicampdkaaDoor

namespace Go.Proofs.YtbpfabicampdkaaDoor
open Go.ChangeShapes Go.WideShapes Go.ChangeAt Go.RowKit

theorem tab_any {l : List (String × DataW Unit)} {W : World} (h : laidMet Tryd.prog l W) (hm : ("internal/strconv.uint64pow10", (Rows.laid_internal_strconv_uint64pow10 : DataW Unit)) ∈ l) : Tab W := by
  obtain ⟨g, t, cs, fuel, p, hg, ht, hvar, hd⟩ := Lib.laidMet.reads h hm
  obtain rfl := Option.some.inj (powGlobal.symm.trans hg)
  obtain rfl := Option.some.inj (powType.symm.trans ht)
  rw [powData] at hd
  unfold Tab Lib.TabIs
  rw [hvar, ← Lib.cells_of_tab Tryd.underlying144 Tryd.underlying132 u64Cells powCells hd]
noncomputable def curLaidWorld (os : Os) : World :=
  { laidWorld os with heap := (laidWorld os).heap.modify 0 (putC (cellsT implT).toArray) }
end Go.Proofs.YtbpfabicampdkaaDoor

namespace Go.Proofs.YtbpfabicampdkaaDoor
open Go.RowKit

set_option maxHeartbeats 4000000 in
set_option maxRecDepth 100000 in
theorem lawRateText_walk (va : Value) (a : EI) (R0 : ByteArray) (w : World)
    (hS : ∀ (ua : Value) (W : World), OwnE ua a W → Calls Tryd.prog 22 #[ua] W (PostT R0 W))
    (hI : ∀ (ua : Value) (W : World), OwnE ua a W → CurTab W → Tab W → Calls Tryd.prog 23 #[ua] W (PostT R0 W))
    (ht0 : CurTab w) (ht1 : Tab w) (hl : szE a ≤ 1048576) (ra : RdE w va a) :
    Calls Tryd.prog 6 #[va] w fun e w' => e = .returned (.bool true) ∧ Below w.heap.size w w' := by
  have HS := Lib.hid hS
  have HI := Lib.hid hI
  clear hS hI
  have HT0 := Lib.hid ht0
  clear ht0
  have HT1 := Lib.hid ht1
  clear ht1
  have hsa := szE_nonneg a
  have hma := mkE_range a
  have hza : szE a ≤ 1048576 := by omega
  obtain ⟨Aa, ca, rfl⟩ := rdE_form ra
  have bb0 : Below w.heap.size w (w.alloc (.cells #[.string a.1, .string a.2.1, .bool a.2.2.1.1, .slice Aa a.2.2.1.2.length ca, .int .i64 a.2.2.2] 28)) := below_al (Below.refl _ _) _
  have ka := (box_new w #[.string a.1, .string a.2.1, .bool a.2.2.1.1, .slice Aa a.2.2.1.2.length ca, .int .i64 a.2.2.2] 28)
  have RFa : Hid (∀ W, Below w.heap.size w W → RdE W (.agg #[.string a.1, .string a.2.1, .bool a.2.2.1.1, .slice Aa a.2.2.1.2.length ca, .int .i64 a.2.2.2]) a) := Lib.hid fun W hb => ra.below hb
  go_enter Tryd.func6, Tryd.ntmps6
  have ka_c0 := ka.here.cell 0 _ rfl
  have ka_c1 := ka.here.cell 1 _ rfl
  have ka_c2 := ka.here.cell 2 _ rfl
  have ka_c3 := ka.here.cell 3 _ rfl
  have ka_c4 := ka.here.cell 4 _ rfl
  go_wp2_with fail
  clear ka_c0 ka_c1 ka_c2 ka_c3 ka_c4
  refine (szE_cal _ a (1048576) _ (capE_of hza) (by omega) (by omega) (RFa.out _ bb0)).mono ?_
  rintro e w1 ⟨rfl, b1⟩
  rw [leftI_of (by omega)]
  have bb1 := Below.next bb0 b1
  replace ka := ka.below b1
  have hn : decide (((1048576 : Int) - szE a : Int) < 0) = false := decide_eq_false (by omega)
  have HKa := Lib.hid (ka.lt (w.heap.size) (by simp))
  have ka_c0 := ka.here.cell 0 _ rfl
  have ka_c1 := ka.here.cell 1 _ rfl
  have ka_c2 := ka.here.cell 2 _ rfl
  have ka_c3 := ka.here.cell 3 _ rfl
  have ka_c4 := ka.here.cell 4 _ rfl
  go_wp2_with fail
  clear ka_c0 ka_c1 ka_c2 ka_c3 ka_c4
  refine (toE_new _ a _ hza (RFa.out _ bb1)).mono ?_
  rintro e w2 ⟨t, St, rfl, ot, lt, b2⟩
  have bb2 := Below.next bb1 b2
  replace ka := ka.below b2
  go_wp2_with fail
  refine (HS.out _ _ ot.here).mono ?_
  rintro e w3 ⟨rfl, b3⟩
  clear ot lt
  have bb3 := Below.next bb2 b3
  replace ka := ka.below b3
  have ka_c0 := ka.here.cell 0 _ rfl
  have ka_c1 := ka.here.cell 1 _ rfl
  have ka_c2 := ka.here.cell 2 _ rfl
  have ka_c3 := ka.here.cell 3 _ rfl
  have ka_c4 := ka.here.cell 4 _ rfl
  go_upto_region 6 with fail
  go_cut [5] (fun s wx => NewLocV 35 (fun v => OwnE v a) w3 s wx)
  case first =>
    go_wp2_with fail
    refine (toE_new _ a _ hza (RFa.out _ bb3)).mono ?_
    rintro e wt ⟨ut, St, rfl, ot, lt, bt⟩
    obtain ⟨At, ct, rfl⟩ := ownE_form ot.here
    go_wp2_with fail
    go_meet
    exact newLocV_last ot lt (Nat.le_refl _) bt
  rename World => w4
  clear ka_c0 ka_c1 ka_c2 ka_c3 ka_c4
  obtain ⟨gxa, csxa, Sxa, rfl, kxa, oxa, nxa, lxa, b4⟩ := hcut
  obtain ⟨Axa, cxa, exa⟩ := ownE_form oxa.here
  injection exa with exa
  subst exa
  have bb4 := Below.next bb3 b4
  replace ka := ka.below b4
  have kxa_c0 := kxa.here.cell 0 _ rfl
  have kxa_c1 := kxa.here.cell 1 _ rfl
  have kxa_c2 := kxa.here.cell 2 _ rfl
  have kxa_c3 := kxa.here.cell 3 _ rfl
  have kxa_c4 := kxa.here.cell 4 _ rfl
  go_wp2_with fail
  clear kxa_c0 kxa_c1 kxa_c2 kxa_c3 kxa_c4
  refine (HI.out _ _ oxa.here (HT0.out.below bb4) (HT1.out.below bb4)).mono ?_
  rintro e w5 ⟨rfl, b5⟩
  have bb5 := Below.next bb4 b5
  replace ka := ka.below b5
  replace kxa := kxa.below b5
  replace oxa := oxa.below b5
  have ka_c0 := ka.here.cell 0 _ rfl
  have ka_c1 := ka.here.cell 1 _ rfl
  have ka_c2 := ka.here.cell 2 _ rfl
  have ka_c3 := ka.here.cell 3 _ rfl
  have ka_c4 := ka.here.cell 4 _ rfl
  have kxa_c0 := kxa.here.cell 0 _ rfl
  have kxa_c1 := kxa.here.cell 1 _ rfl
  have kxa_c2 := kxa.here.cell 2 _ rfl
  have kxa_c3 := kxa.here.cell 3 _ rfl
  have kxa_c4 := kxa.here.cell 4 _ rfl
  go_wp2_with fail
  have HB0 := Lib.hid (show Below w5.heap.size w5 w5.drew from (Below.refl _ _).drew)
  have KL := Lib.hid (show ∀ W, Below w5.heap.size w5 W → W.cell? ⟨w.heap.size, 0, none⟩ = some (.string a.1) ∧ W.cell? ⟨w.heap.size, 1, none⟩ = some (.string a.2.1) ∧ W.cell? ⟨w.heap.size, 2, none⟩ = some (.bool a.2.2.1.1) ∧ W.cell? ⟨w.heap.size, 3, none⟩ = some (.slice Aa a.2.2.1.2.length ca) ∧ W.cell? ⟨w.heap.size, 4, none⟩ = some (.int .i64 a.2.2.2) ∧ W.cell? ⟨gxa, 0, none⟩ = some (.string a.1) ∧ W.cell? ⟨gxa, 1, none⟩ = some (.string a.2.1) ∧ W.cell? ⟨gxa, 2, none⟩ = some (.bool a.2.2.1.1) ∧ W.cell? ⟨gxa, 3, none⟩ = some (.slice Axa a.2.2.1.2.length cxa) ∧ W.cell? ⟨gxa, 4, none⟩ = some (.int .i64 a.2.2.2) ∧ Hid (Below w5.heap.size w5 W) from
    fun W hb => ⟨(ka.below hb).here.cell 0 _ rfl, (ka.below hb).here.cell 1 _ rfl, (ka.below hb).here.cell 2 _ rfl, (ka.below hb).here.cell 3 _ rfl, (ka.below hb).here.cell 4 _ rfl, (kxa.below hb).here.cell 0 _ rfl, (kxa.below hb).here.cell 1 _ rfl, (kxa.below hb).here.cell 2 _ rfl, (kxa.below hb).here.cell 3 _ rfl, (kxa.below hb).here.cell 4 _ rfl, Lib.hid hb⟩)
  have BBF := Lib.hid (show ∀ W, Below w5.heap.size w5 W → Below w.heap.size w W from fun W hb => Below.next bb5 hb)
  have OXF := Lib.hid (show ∀ W, Below w5.heap.size w5 W → OwnE (.agg #[.string a.1, .string a.2.1, .bool a.2.2.1.1, .slice Axa a.2.2.1.2.length cxa, .int .i64 a.2.2.2]) a W from fun W hb => (oxa.below hb).here)
  clear ka_c0 ka_c1 ka_c2 ka_c3 ka_c4 kxa_c0 kxa_c1 kxa_c2 kxa_c3 kxa_c4
  go_region_held3 (fun W => W.cell? ⟨w.heap.size, 0, none⟩ = some (.string a.1) ∧ W.cell? ⟨w.heap.size, 1, none⟩ = some (.string a.2.1) ∧ W.cell? ⟨w.heap.size, 2, none⟩ = some (.bool a.2.2.1.1) ∧ W.cell? ⟨w.heap.size, 3, none⟩ = some (.slice Aa a.2.2.1.2.length ca) ∧ W.cell? ⟨w.heap.size, 4, none⟩ = some (.int .i64 a.2.2.2) ∧ W.cell? ⟨gxa, 0, none⟩ = some (.string a.1) ∧ W.cell? ⟨gxa, 1, none⟩ = some (.string a.2.1) ∧ W.cell? ⟨gxa, 2, none⟩ = some (.bool a.2.2.1.1) ∧ W.cell? ⟨gxa, 3, none⟩ = some (.slice Axa a.2.2.1.2.length cxa) ∧ W.cell? ⟨gxa, 4, none⟩ = some (.int .i64 a.2.2.2) ∧ Hid (Below w5.heap.size w5 W))
    ((refine KL.out _ ?_; (first | exact HBe.out | exact HBt.out | exact HB0.out | fail)))
    (first
      | (go_at_call 9; (have hBB := (‹_ ∧ _ ∧ _ ∧ _ ∧ _ ∧ _ ∧ _ ∧ _ ∧ _ ∧ _ ∧ Hid (Below w5.heap.size w5 _)›).2.2.2.2.2.2.2.2.2.2); (with_reducible refine (toE_new _ a _ hza (RFa.out _ (BBF.out _ hBB.out))).mono ?_); rintro e wt ⟨t, St, rfl, ot, lt, bt⟩; have HBt := Lib.hid (Below.next hBB.out bt); clear hBB)
      | (go_at_call 11; (have hBB := (‹_ ∧ _ ∧ _ ∧ _ ∧ _ ∧ _ ∧ _ ∧ _ ∧ _ ∧ _ ∧ Hid (Below w5.heap.size w5 _)›).2.2.2.2.2.2.2.2.2.2); (with_reducible refine (eqE_cal _ _ a a _ (capE_of hza) (OwnE.rd (OXF.out _ hBB.out)) (OwnE.rd ot.here)).mono ?_); rintro e w6 ⟨rfl, be⟩; rw [decide_refl]; have HBe := Lib.hid (Below.next hBB.out be); clear hBB))
  have b6 := HBe.out
  have bb6 := Below.next bb5 b6
  replace ka := ka.below b6
  replace kxa := kxa.below b6
  replace oxa := oxa.below b6
  clear HB0 KL BBF OXF HBt HBe ot lt
  go_wp2
  go_ret
  exact ⟨rfl, bb6⟩
end Go.Proofs.YtbpfabicampdkaaDoor

namespace Go.Proofs.YtbpfabicampdkaaDoor
open Go.RowKit

theorem emptyP_ne {s : ByteArray} (h : ¬ s = ⟨#[]⟩) : s.toList.isEmpty = false := by
  rcases Bool.eq_false_or_eq_true s.toList.isEmpty with e | e
  · rw [List.isEmpty_iff, Lib.toList_data] at e
    exact absurd (WideShapes.bytes_inj (by rw [e])) h
  · exact e
theorem bytes_neP {a b : ByteArray} (h : ¬ a = b) : (a.toList == b.toList) = false := by
  rw [beq_eq_false_iff_ne, ByteArray.toList_eq, ByteArray.toList_eq]
  exact fun e => h (WideShapes.bytes_inj e)
theorem bytes_eqP {a b : ByteArray} (h : a = b) : (a.toList == b.toList) = true := by subst h; exact beq_self_eq_true _
theorem point_lt {s : ByteArray} {o : Nat} (h : pointAt s = o) : o < s.size := by
  obtain ⟨h1, _⟩ := Lib.indexByte_some h
  have := (List.getElem?_eq_some_iff.1 h1).1
  rw [listB_len] at this
  exact this
theorem pre_post_size (s : ByteArray) : (preB s).size ≤ s.size ∧ (postB s).size ≤ s.size ∧ (preB s).size + (postB s).size ≤ s.size := by
  unfold preB postB
  split
  · exact ⟨Nat.le_refl _, Nat.zero_le _, Nat.le_refl _⟩
  · rw [ByteArray.size_extract, ByteArray.size_extract]
    omega
theorem trim_size (l : List UInt8) (c : UInt8) : (Lib.trimLeftB l c).length ≤ l.length := (List.dropWhile_sublist _).length_le
end Go.Proofs.YtbpfabicampdkaaDoor

namespace Go.Proofs.YtbpfabicampdkaaDoor
open Go.RowKit

theorem ret_strD {a b : ByteArray} (h : a = b) : Ending.returned (.string a) = Ending.returned (.string b) := by rw [h]
theorem postT_eqD {a b : ByteArray} (h : a = b) {w w' : World} {e : Ending} (k : e = .returned (.string a) ∧ Below w.heap.size w w') : PostT b w e w' := by rw [← h]; exact k
theorem postT_isD {a b : ByteArray} (h : a = b) {w w' : World} {e : Ending} (k : PostT a w e w') : PostT b w e w' := h ▸ k
theorem natText_pos {a : DI} (h : okD a = true) : 1 ≤ (natTextB a.1.2).size := by
  obtain ⟨n, m, b⟩ := body_of h
  have hd := (dig_dec n).2
  have e := b.digits
  have hl := listB_len (natTextB a.1.2)
  rw [e] at hl
  cases hq : Lib.decDigits n with
  | nil => exact absurd hq hd
  | cons c r => rw [hq] at hl; simp at hl; omega
/-- the text of a number without a scale -/
theorem text_zero {a : DI} (h : okD a = true) (h0 : a.2 = 0) : textD a = intStrB a.1 := by
  have hb : bodyD a = natTextB a.1.2 := by
    unfold bodyD
    rw [h0]
    exact padB_same _ _ (by have := natText_pos h; omega)
  unfold textD intStrB
  rw [if_pos h, if_pos (partsD h).ok, hb, h0]
  unfold pointB
  have e : ¬ (0 : Int) < 0 := by decide
  rw [if_neg e]
/-- its parts, with one -/
theorem text_some {a : DI} (h : okD a = true) (h0 : 0 < a.2) {K : Nat} (hK : ((bodyD a).size : Int) - a.2 = K) :
    textD a = (if a.1.1 = true then (⟨#[45]⟩ : ByteArray) else ⟨#[]⟩) ++ ((bodyD a).extract 0 K ++ ⟨#[46]⟩ ++ (bodyD a).extract K (bodyD a).size) := by
  have e : (bodyD a).size - a.2.toNat = K := by omega
  unfold textD pointB
  rw [if_pos h, if_pos h0, e]
  cases a.1.1 with
  | true => rfl
  | false =>
    apply ByteArray.ext
    simp
theorem body_K {a : DI} (h : okD a = true) : ∃ K : Nat, ((bodyD a).size : Int) - a.2 = K ∧ K ≤ (bodyD a).size ∧ (bodyD a).size ≤ 100 := by
  obtain ⟨n, m, b⟩ := body_of h
  have h1 := b.long
  have h2 := b.size
  have h3 := (partsD h).lo
  exact ⟨(bodyD a).size - a.2.toNat, by omega, by omega, h2⟩
theorem box_rowD {g : Nat} {cs : Array Value} {T : TypeId} {w : World} (h : BoxAt g cs T w) : Row w 0 w.heap.size (.slice (some ⟨g, 0, none⟩) cs.size cs.size) cs.toList := by
  have hg := (Array.getElem?_eq_some_iff.1 h).1
  refine ⟨some ⟨g, 0, none⟩, cs.size, by simp, fun j u hj => ⟨⟨g, 0, none⟩, rfl, Nat.zero_le _, hg, ?_⟩⟩
  have e1 : (Addr.add ⟨g, 0, none⟩ j) = ⟨g, j, none⟩ := by
    unfold Addr.add
    cases j with
    | zero => rfl
    | succ n => simp
  rw [e1, Lib.cell_of_heap h]
  simpa using hj
theorem box_drewD {g : Nat} {cs : Array Value} {T : TypeId} {w : World} (h : BoxAt g cs T w) : BoxAt g cs T w.drew := h
theorem join_four (S A C : ByteArray) : joinB ⟨#[]⟩ [S, A, ⟨#[46]⟩, C] = S ++ (A ++ ⟨#[46]⟩ ++ C) := by
  apply ByteArray.ext
  simp [joinB, joinTo]
theorem four_small {S A C : ByteArray} (h1 : S.size ≤ 1048576) (h2 : A.size ≤ 1048576) (h3 : C.size ≤ 1048576) : ∀ s ∈ [S, A, (⟨#[46]⟩ : ByteArray), C], s.size ≤ 1048576 := fun s hs => by
  simp at hs
  rcases hs with rfl | rfl | rfl | rfl
  · exact h1
  · exact h2
  · decide
  · exact h3
theorem join4_at (S A C T0 : ByteArray) (g : Nat) (W : World) (T : TypeId) (h1 : S.size ≤ 1048576) (h2 : A.size ≤ 1048576) (h3 : C.size ≤ 1048576) (hT : S ++ (A ++ ⟨#[46]⟩ ++ C) = T0) (hb : BoxAt g #[.string S, .string A, .string ⟨#[46]⟩, .string C] T W) :
    Calls Tryd.prog 70 #[.string ⟨#[]⟩, .slice (some ⟨g, 0, none⟩) 4 4] W (PostT T0 W) := by
  have h := joinAll_any ⟨#[]⟩ (.slice (some ⟨g, 0, none⟩) 4 4) [S, A, ⟨#[46]⟩, C] 0 _ W (Nat.le_refl _) (by simp) (by decide) (four_small h1 h2 h3) (box_rowD hb)
  rw [join_four, hT] at h
  exact h
set_option maxHeartbeats 4000000 in
set_option maxRecDepth 100000 in
theorem implDecText_any (va : Value) (a : DI) (w : World) (hla : a.1.2.length ≤ 1048576) (ha : OwnD va a w) (ht : Tab w) :
    Calls Tryd.prog 49 #[va] w (PostT (textD a) w) := by
  have HT := Lib.hid ht
  clear ht
  have Ha := Lib.hid ha
  obtain ⟨Aa, ca, rfl⟩ := ownD_form ha
  have ODa := Lib.hid (show ∀ W, Below w.heap.size w W → OwnD (.agg #[.bool a.1.1, .slice Aa a.1.2.length ca, .int .i64 a.2]) a W from fun W hb => OwnD.below Ha.out hb)
  have OIa := Lib.hid (show ∀ W, Below w.heap.size w W → OwnI (.slice Aa a.1.2.length ca) a.1.2 W from fun W hb => ownD_open (ODa.out W hb))
  have OSa := Lib.hid (show ∀ W, Below w.heap.size w W → OwnS (.agg #[.bool a.1.1, .slice Aa a.1.2.length ca]) a.1 W from fun W hb => OwnS.mk (OIa.out W hb))
  clear ha
  have bb0 : Below w.heap.size w (w.alloc (.cells #[.bool a.1.1, .slice Aa a.1.2.length ca, .int .i64 a.2] 33)) := below_al (Below.refl _ _) _
  have ka := (box_new w #[.bool a.1.1, .slice Aa a.1.2.length ca, .int .i64 a.2] 33)
  obtain ⟨T, hT⟩ : ∃ T, textD a = T := ⟨_, rfl⟩
  have ET := Lib.hid hT
  rw [hT]
  clear hT
  go_enter Tryd.func49, Tryd.ntmps49
  have ka_c0 := ka.here.cell 0 _ rfl
  have ka_c1 := ka.here.cell 1 _ rfl
  have ka_c2 := ka.here.cell 2 _ rfl
  go_wp2_with fail
  clear ka_c0 ka_c1 ka_c2
  refine (implDecOk_any _ a _ hla (ODa.out _ bb0)).mono ?_
  rintro e w1 ⟨rfl, b1⟩
  have bb1 := Below.next bb0 b1
  replace ka := ka.below b1
  by_cases ok : okD a = true
  · rw [ok]
    have HO := Lib.hid ok
    have qa := partsD ok
    have ta := qa.lo
    have ta2 := qa.hi
    clear ok qa
    by_cases hs : a.2 = 0
    · have HV := Lib.hid (show intStrB a.1 = T from (text_zero HO.out hs).symm.trans ET.out)
      have hs2 : (a.2 == 0) = true := by rw [beq_iff_eq]; exact hs
      have ka_c0 := ka.here.cell 0 _ rfl
      have ka_c1 := ka.here.cell 1 _ rfl
      have ka_c2 := ka.here.cell 2 _ rfl
      go_wp2_with fail
      clear ka_c0 ka_c1 ka_c2
      refine (implIntStr_any _ a.1 _ hla (OwnS.rd (OSa.out _ bb1)) (HT.out.below bb1)).mono ?_
      rintro e w2 ⟨rfl, b2⟩
      have bb2 := Below.next bb1 b2
      replace ka := ka.below b2
      clear ka
      go_wp2
      go_ret
      exact ⟨ret_strD HV.out, bb2⟩
    · have hs2 : (a.2 == 0) = false := by rw [beq_eq_false_iff_ne]; exact hs
      have h0 : 0 < a.2 := by omega
      obtain ⟨K, hK, hKl, hB⟩ := body_K HO.out
      have HV := Lib.hid ((text_some HO.out h0 hK).symm.trans ET.out)
      obtain ⟨n1, hn1⟩ : ∃ n, IntKind.i64.wrap (a.2 + 1) = n := ⟨_, rfl⟩
      have hn2 : n1 = a.2 + 1 := by rw [← hn1]; exact IntWalk.i64_in _ (by omega)
      obtain ⟨D, hD⟩ : ∃ D, natTextB a.1.2 = D := ⟨_, rfl⟩
      have hDs : D.size ≤ 1048576 := by rw [← hD]; have := natTextB_size a.1.2; omega
      have EB := Lib.hid (show padB D n1 = bodyD a by rw [← hD, hn2]; rfl)
      have hn3 : n1 ≤ 2000 := by omega
      have hn4 : -9223372036854775808 ≤ n1 := by omega
      generalize bodyD a = B at *
      have ED := Lib.hid hD
      have hKw : IntKind.i64.wrap ((B.size : Int) - a.2) = (K : Int) := by rw [hK]; exact IntWalk.i64_in _ (by omega)
      have c1 : (0 : Int) ≤ (K : Int) := by omega
      have c2 : (K : Int) ≤ (B.size : Int) := by omega
      clear hD hn2 hK hs
      cases hneg : a.1.1 with
      | true =>
        rw [hneg] at HV
        have HG := Lib.hid hneg
        have ka_c0 := ka.here.cell 0 _ rfl
        have ka_c1 := ka.here.cell 1 _ rfl
        have ka_c2 := ka.here.cell 2 _ rfl
        rw [show (#[.bool a.1.1, .slice Aa a.1.2.length ca, .int .i64 a.2] : Array Value)[0] = .bool true from by show Value.bool a.1.1 = _; rw [hneg]] at ka_c0
        clear hneg
        go_wp2_with fail
        have HC0 := Lib.hid (show Chg [] w1 w1.drew from (Chg.refl _ _).drew1)
        have HCr := Lib.hid (show Chg [] w1 w1 from Chg.refl _ _)
        have KL := Lib.hid (show ∀ W, Chg [] w1 W → W.cell? ⟨w.heap.size, 0, none⟩ = some (.bool a.1.1) ∧ W.cell? ⟨w.heap.size, 1, none⟩ = some (.slice Aa a.1.2.length ca) ∧ W.cell? ⟨w.heap.size, 2, none⟩ = some (.int .i64 a.2) ∧ Hid (Chg [] w1 W) from fun W hc => ⟨(ka.chg hc (fun i hi hm => by simp at hm)).here.cell 0 _ rfl, (ka.chg hc (fun i hi hm => by simp at hm)).here.cell 1 _ rfl, (ka.chg hc (fun i hi hm => by simp at hm)).here.cell 2 _ rfl, Lib.hid hc⟩)
        have BBF := Lib.hid (show ∀ W, Chg [] w1 W → Below w.heap.size w W from fun W hc => below_chg bb1 hc bb1.size (fun i hi => by simp at hi))
        clear ka_c0 ka_c1 ka_c2
        go_region_held3 (fun W => W.cell? ⟨w.heap.size, 0, none⟩ = some (.bool a.1.1) ∧ W.cell? ⟨w.heap.size, 1, none⟩ = some (.slice Aa a.1.2.length ca) ∧ W.cell? ⟨w.heap.size, 2, none⟩ = some (.int .i64 a.2) ∧ Hid (Chg [] w1 W))
          ((refine KL.out _ ?_; (first | exact HC3.out | exact HC2.out | exact HCr.out | exact HC0.out | exact HC3.out.drew1 | exact HC2.out.drew1 | exact HCr.out.drew1 | exact HC0.out.drew1 | exact HC3.out.trans (Chg.of_below (below_al (Below.refl _ _) _)) | exact HC2.out.trans (Chg.of_below (below_al (Below.refl _ _) _)) | exact HCr.out.trans (Chg.of_below (below_al (Below.refl _ _) _)) | exact HC0.out.trans (Chg.of_below (below_al (Below.refl _ _) _)) | fail)))
          (first
            | (go_at_call 73; (have hBB := (‹_ ∧ _ ∧ _ ∧ Hid (Chg [] w1 _)›).2.2.2); (with_reducible refine ((implNatText_any _ a.1.2 0 _ _ hla (Nat.le_refl _) (OIa.out _ (BBF.out _ hBB.out)).row (HT.out.below (BBF.out _ hBB.out))).mono fun _ _ h => postT_eqD ED.out h).mono ?_); rintro e w2 ⟨rfl, b2⟩; have HC2 := Lib.hid (hBB.out.trans (Chg.of_below b2)); have HBZ2 := Lib.hid hBB.out.size; clear hBB)
            | (go_at_call 72; (have hBB := (‹_ ∧ _ ∧ _ ∧ Hid (Chg [] w1 _)›).2.2.2); (with_reducible refine ((implPad_any D n1 _ hDs hn3 hn4).mono fun _ _ h => postT_eqD EB.out h).mono ?_); rintro e w3 ⟨rfl, b3⟩; have HC3 := Lib.hid (hBB.out.trans (Chg.of_below b3)); have HBZ3 := Lib.hid hBB.out.size; clear hBB))
        all_goals
          have bb3 := BBF.out _ HC3.out
          replace ka := ka.chg HC3.out (fun i hi hm => by simp at hm)
          have hj1 : (⟨#[45]⟩ : ByteArray).size ≤ 1048576 := by decide
          have hj2 : (B.extract 0 K).size ≤ 1048576 := by rw [ByteArray.size_extract]; omega
          have hj3 : (B.extract K B.size).size ≤ 1048576 := by rw [ByteArray.size_extract]; omega
          have HVV := Lib.hid (show (⟨#[45]⟩ : ByteArray) ++ (B.extract 0 K ++ ⟨#[46]⟩ ++ B.extract K B.size) = T from by have h := HV.out; first | exact h | (rw [if_pos rfl] at h; exact h) | (rw [if_neg (by decide)] at h; exact h))
          have ka_c0 := ka.here.cell 0 _ rfl
          have ka_c1 := ka.here.cell 1 _ rfl
          have ka_c2 := ka.here.cell 2 _ rfl
          go_wp2_with fail
          have HC0 := Lib.hid (show Chg [] w3 w3.drew from (Chg.refl _ _).drew1)
          have HCr := Lib.hid (show Chg [] w3 w3 from Chg.refl _ _)
          have KL := Lib.hid (show ∀ W, Chg [] w3 W → W.cell? ⟨w.heap.size, 0, none⟩ = some (.bool a.1.1) ∧ W.cell? ⟨w.heap.size, 1, none⟩ = some (.slice Aa a.1.2.length ca) ∧ W.cell? ⟨w.heap.size, 2, none⟩ = some (.int .i64 a.2) ∧ Hid (Chg [] w3 W) from fun W hc => ⟨(ka.chg hc (fun i hi hm => by simp at hm)).here.cell 0 _ rfl, (ka.chg hc (fun i hi hm => by simp at hm)).here.cell 1 _ rfl, (ka.chg hc (fun i hi hm => by simp at hm)).here.cell 2 _ rfl, Lib.hid hc⟩)
          have BBF := Lib.hid (show ∀ W, Chg [] w3 W → Below w.heap.size w W from fun W hc => below_chg bb3 hc bb3.size (fun i hi => by simp at hi))
          clear ka_c0 ka_c1 ka_c2
          go_region_held3 (fun W => W.cell? ⟨w.heap.size, 0, none⟩ = some (.bool a.1.1) ∧ W.cell? ⟨w.heap.size, 1, none⟩ = some (.slice Aa a.1.2.length ca) ∧ W.cell? ⟨w.heap.size, 2, none⟩ = some (.int .i64 a.2) ∧ Hid (Chg [] w3 W))
            ((refine KL.out _ ?_; (first | exact HC4.out | exact HCr.out | exact HC0.out | exact HC4.out.drew1 | exact HCr.out.drew1 | exact HC0.out.drew1 | exact HC4.out.trans (Chg.of_below (below_al (Below.refl _ _) _)) | exact HCr.out.trans (Chg.of_below (below_al (Below.refl _ _) _)) | exact HC0.out.trans (Chg.of_below (below_al (Below.refl _ _) _)) | fail)))
            (first
              | (go_at_call 70; (have hBB := (‹_ ∧ _ ∧ _ ∧ Hid (Chg [] w3 _)›).2.2.2); (with_reducible refine (join4_at ⟨#[45]⟩ (B.extract 0 K) (B.extract K B.size) T _ _ _ hj1 hj2 hj3 HVV.out (by first | exact (box_new _ _ 9).here | exact box_drewD (box_new _ _ 9).here)).mono ?_); rintro e w4 ⟨rfl, b4⟩; have HC4 := Lib.hid (hBB.out.trans (Chg.of_below b4)); have HBZ4 := Lib.hid hBB.out.size; clear hBB))
          all_goals
            have bb4 := BBF.out _ HC4.out
            replace ka := ka.chg HC4.out (fun i hi hm => by simp at hm)
            go_wp2
            go_ret
            exact ⟨rfl, bb4⟩
      | false =>
        rw [hneg] at HV
        have HG := Lib.hid hneg
        have ka_c0 := ka.here.cell 0 _ rfl
        have ka_c1 := ka.here.cell 1 _ rfl
        have ka_c2 := ka.here.cell 2 _ rfl
        rw [show (#[.bool a.1.1, .slice Aa a.1.2.length ca, .int .i64 a.2] : Array Value)[0] = .bool false from by show Value.bool a.1.1 = _; rw [hneg]] at ka_c0
        clear hneg
        go_wp2_with fail
        have HC0 := Lib.hid (show Chg [] w1 w1.drew from (Chg.refl _ _).drew1)
        have HCr := Lib.hid (show Chg [] w1 w1 from Chg.refl _ _)
        have KL := Lib.hid (show ∀ W, Chg [] w1 W → W.cell? ⟨w.heap.size, 0, none⟩ = some (.bool a.1.1) ∧ W.cell? ⟨w.heap.size, 1, none⟩ = some (.slice Aa a.1.2.length ca) ∧ W.cell? ⟨w.heap.size, 2, none⟩ = some (.int .i64 a.2) ∧ Hid (Chg [] w1 W) from fun W hc => ⟨(ka.chg hc (fun i hi hm => by simp at hm)).here.cell 0 _ rfl, (ka.chg hc (fun i hi hm => by simp at hm)).here.cell 1 _ rfl, (ka.chg hc (fun i hi hm => by simp at hm)).here.cell 2 _ rfl, Lib.hid hc⟩)
        have BBF := Lib.hid (show ∀ W, Chg [] w1 W → Below w.heap.size w W from fun W hc => below_chg bb1 hc bb1.size (fun i hi => by simp at hi))
        clear ka_c0 ka_c1 ka_c2
        go_region_held3 (fun W => W.cell? ⟨w.heap.size, 0, none⟩ = some (.bool a.1.1) ∧ W.cell? ⟨w.heap.size, 1, none⟩ = some (.slice Aa a.1.2.length ca) ∧ W.cell? ⟨w.heap.size, 2, none⟩ = some (.int .i64 a.2) ∧ Hid (Chg [] w1 W))
          ((refine KL.out _ ?_; (first | exact HC3.out | exact HC2.out | exact HCr.out | exact HC0.out | exact HC3.out.drew1 | exact HC2.out.drew1 | exact HCr.out.drew1 | exact HC0.out.drew1 | exact HC3.out.trans (Chg.of_below (below_al (Below.refl _ _) _)) | exact HC2.out.trans (Chg.of_below (below_al (Below.refl _ _) _)) | exact HCr.out.trans (Chg.of_below (below_al (Below.refl _ _) _)) | exact HC0.out.trans (Chg.of_below (below_al (Below.refl _ _) _)) | fail)))
          (first
            | (go_at_call 73; (have hBB := (‹_ ∧ _ ∧ _ ∧ Hid (Chg [] w1 _)›).2.2.2); (with_reducible refine ((implNatText_any _ a.1.2 0 _ _ hla (Nat.le_refl _) (OIa.out _ (BBF.out _ hBB.out)).row (HT.out.below (BBF.out _ hBB.out))).mono fun _ _ h => postT_eqD ED.out h).mono ?_); rintro e w2 ⟨rfl, b2⟩; have HC2 := Lib.hid (hBB.out.trans (Chg.of_below b2)); have HBZ2 := Lib.hid hBB.out.size; clear hBB)
            | (go_at_call 72; (have hBB := (‹_ ∧ _ ∧ _ ∧ Hid (Chg [] w1 _)›).2.2.2); (with_reducible refine ((implPad_any D n1 _ hDs hn3 hn4).mono fun _ _ h => postT_eqD EB.out h).mono ?_); rintro e w3 ⟨rfl, b3⟩; have HC3 := Lib.hid (hBB.out.trans (Chg.of_below b3)); have HBZ3 := Lib.hid hBB.out.size; clear hBB))
        all_goals
          have bb3 := BBF.out _ HC3.out
          replace ka := ka.chg HC3.out (fun i hi hm => by simp at hm)
          have hj1 : (⟨#[]⟩ : ByteArray).size ≤ 1048576 := by decide
          have hj2 : (B.extract 0 K).size ≤ 1048576 := by rw [ByteArray.size_extract]; omega
          have hj3 : (B.extract K B.size).size ≤ 1048576 := by rw [ByteArray.size_extract]; omega
          have HVV := Lib.hid (show (⟨#[]⟩ : ByteArray) ++ (B.extract 0 K ++ ⟨#[46]⟩ ++ B.extract K B.size) = T from by have h := HV.out; first | exact h | (rw [if_pos rfl] at h; exact h) | (rw [if_neg (by decide)] at h; exact h))
          have ka_c0 := ka.here.cell 0 _ rfl
          have ka_c1 := ka.here.cell 1 _ rfl
          have ka_c2 := ka.here.cell 2 _ rfl
          go_wp2_with fail
          have HC0 := Lib.hid (show Chg [] w3 w3.drew from (Chg.refl _ _).drew1)
          have HCr := Lib.hid (show Chg [] w3 w3 from Chg.refl _ _)
          have KL := Lib.hid (show ∀ W, Chg [] w3 W → W.cell? ⟨w.heap.size, 0, none⟩ = some (.bool a.1.1) ∧ W.cell? ⟨w.heap.size, 1, none⟩ = some (.slice Aa a.1.2.length ca) ∧ W.cell? ⟨w.heap.size, 2, none⟩ = some (.int .i64 a.2) ∧ Hid (Chg [] w3 W) from fun W hc => ⟨(ka.chg hc (fun i hi hm => by simp at hm)).here.cell 0 _ rfl, (ka.chg hc (fun i hi hm => by simp at hm)).here.cell 1 _ rfl, (ka.chg hc (fun i hi hm => by simp at hm)).here.cell 2 _ rfl, Lib.hid hc⟩)
          have BBF := Lib.hid (show ∀ W, Chg [] w3 W → Below w.heap.size w W from fun W hc => below_chg bb3 hc bb3.size (fun i hi => by simp at hi))
          clear ka_c0 ka_c1 ka_c2
          go_region_held3 (fun W => W.cell? ⟨w.heap.size, 0, none⟩ = some (.bool a.1.1) ∧ W.cell? ⟨w.heap.size, 1, none⟩ = some (.slice Aa a.1.2.length ca) ∧ W.cell? ⟨w.heap.size, 2, none⟩ = some (.int .i64 a.2) ∧ Hid (Chg [] w3 W))
            ((refine KL.out _ ?_; (first | exact HC4.out | exact HCr.out | exact HC0.out | exact HC4.out.drew1 | exact HCr.out.drew1 | exact HC0.out.drew1 | exact HC4.out.trans (Chg.of_below (below_al (Below.refl _ _) _)) | exact HCr.out.trans (Chg.of_below (below_al (Below.refl _ _) _)) | exact HC0.out.trans (Chg.of_below (below_al (Below.refl _ _) _)) | fail)))
            (first
              | (go_at_call 70; (have hBB := (‹_ ∧ _ ∧ _ ∧ Hid (Chg [] w3 _)›).2.2.2); (with_reducible refine (join4_at ⟨#[]⟩ (B.extract 0 K) (B.extract K B.size) T _ _ _ hj1 hj2 hj3 HVV.out (by first | exact (box_new _ _ 9).here | exact box_drewD (box_new _ _ 9).here)).mono ?_); rintro e w4 ⟨rfl, b4⟩; have HC4 := Lib.hid (hBB.out.trans (Chg.of_below b4)); have HBZ4 := Lib.hid hBB.out.size; clear hBB))
          all_goals
            have bb4 := BBF.out _ HC4.out
            replace ka := ka.chg HC4.out (fun i hi hm => by simp at hm)
            go_wp2
            go_ret
            exact ⟨rfl, bb4⟩
  · have ok' : okD a = false := by simpa using ok
    have HV := Lib.hid (show (⟨#[]⟩ : ByteArray) = T by rw [← ET.out]; unfold textD; rw [if_neg ok])
    rw [ok']
    clear ok ok' ka
    go_wp2
    go_ret
    exact ⟨ret_strD HV.out, bb1⟩
end Go.Proofs.YtbpfabicampdkaaDoor

namespace Go.Proofs.YtbpfabicampdkaaDoor
open Go.RowKit

theorem join_three (A B C : ByteArray) : joinB ⟨#[32]⟩ [A, B, C] = A ++ ⟨#[32]⟩ ++ B ++ ⟨#[32]⟩ ++ C := by
  apply ByteArray.ext
  simp [joinB, joinTo]
theorem three_smallE {A B C : ByteArray} (h1 : A.size ≤ 1048576) (h2 : B.size ≤ 1048576) (h3 : C.size ≤ 1048576) : ∀ s ∈ [A, B, C], s.size ≤ 1048576 := fun s hs => by
  simp at hs
  rcases hs with rfl | rfl | rfl
  · exact h1
  · exact h2
  · exact h3
theorem postT_isE {a b : ByteArray} (h : a = b) {w w' : World} {e : Ending} (k : PostT a w e w') : PostT b w e w' := h ▸ k
theorem join3_at (A B C T0 : ByteArray) (g : Nat) (W : World) (T : TypeId) (h1 : A.size ≤ 1048576) (h2 : B.size ≤ 1048576) (h3 : C.size ≤ 1048576) (hT : A ++ ⟨#[32]⟩ ++ B ++ ⟨#[32]⟩ ++ C = T0) (hb : BoxAt g #[.string A, .string B, .string C] T W) :
    Calls Tryd.prog 48 #[.slice (some ⟨g, 0, none⟩) 3 3, .string ⟨#[32]⟩] W (PostT T0 W) := by
  have h := implJoin_any (.slice (some ⟨g, 0, none⟩) 3 3) ⟨#[32]⟩ [A, B, C] 0 _ W (Nat.le_refl _) (by simp) (by decide) (three_smallE h1 h2 h3) (box_rowD hb)
  rw [join_three, hT] at h
  exact h
set_option maxHeartbeats 4000000 in
set_option maxRecDepth 100000 in
theorem implRateText_any (vr : Value) (r : EI) (w : World) (hl : r.2.2.1.2.length ≤ 1048576) (hr : OwnE vr r w) (ht : CurTab w) (hd : Tab w) :
    Calls Tryd.prog 23 #[vr] w (PostT (textE r) w) := by
  have Hr := Lib.hid hr
  obtain ⟨Ar, cr, rfl⟩ := ownE_form hr
  have OEr := Lib.hid (show ∀ W, Below w.heap.size w W → OwnE (.agg #[.string r.1, .string r.2.1, .bool r.2.2.1.1, .slice Ar r.2.2.1.2.length cr, .int .i64 r.2.2.2]) r W from fun W hb => OwnE.below Hr.out hb)
  have OIr := Lib.hid (show ∀ W, Below w.heap.size w W → OwnI (.slice Ar r.2.2.1.2.length cr) r.2.2.1.2 W from fun W hb => ownE_open (OEr.out W hb))
  have ODr := Lib.hid (show ∀ W, Below w.heap.size w W → OwnD (.agg #[.bool r.2.2.1.1, .slice Ar r.2.2.1.2.length cr, .int .i64 r.2.2.2]) r.2.2 W from fun W hb => OwnD.mk (OIr.out W hb))
  have OSr := Lib.hid (show ∀ W, Below w.heap.size w W → OwnS (.agg #[.bool r.2.2.1.1, .slice Ar r.2.2.1.2.length cr]) r.2.2.1 W from fun W hb => OwnS.mk (OIr.out W hb))
  clear hr
  have HT := Lib.hid ht
  clear ht
  have HD := Lib.hid hd
  clear hd
  have bb0 : Below w.heap.size w (w.alloc (.cells #[.string r.1, .string r.2.1, .bool r.2.2.1.1, .slice Ar r.2.2.1.2.length cr, .int .i64 r.2.2.2] 35)) := below_al (Below.refl _ _) _
  have kr := (box_new w #[.string r.1, .string r.2.1, .bool r.2.2.1.1, .slice Ar r.2.2.1.2.length cr, .int .i64 r.2.2.2] 35)
  go_enter Tryd.func23, Tryd.ntmps23
  have kr_c0 := kr.here.cell 0 _ rfl
  have kr_c1 := kr.here.cell 1 _ rfl
  have kr_c2 := kr.here.cell 2 _ rfl
  have kr_c3 := kr.here.cell 3 _ rfl
  have kr_c4 := kr.here.cell 4 _ rfl
  go_wp2_with fail
  clear kr_c0 kr_c1 kr_c2 kr_c3 kr_c4
  refine (implRateOk_any _ r _ hl (OEr.out _ bb0) (HT.out.below bb0)).mono ?_
  rintro e w1 ⟨rfl, b1⟩
  have bb1 := Below.next bb0 b1
  replace kr := kr.below b1
  by_cases ok : okE r = true
  · rw [ok]
    obtain ⟨hs1, hs2, hs3⟩ := textE_sizes ok
    obtain ⟨T, hT⟩ : ∃ T, textD r.2.2 = T := ⟨_, rfl⟩
    have ET := Lib.hid hT
    have HV := Lib.hid (show r.1 ++ ⟨#[32]⟩ ++ r.2.1 ++ ⟨#[32]⟩ ++ T = textE r by rw [textE_yes ok, hT])
    rw [hT] at hs3
    clear ok hT
    have hq1 : r.1.size ≤ 1048576 := by omega
    have hq2 : r.2.1.size ≤ 1048576 := by omega
    have hq3 : T.size ≤ 1048576 := by omega
    clear hs1 hs2 hs3
    have kr_c0 := kr.here.cell 0 _ rfl
    have kr_c1 := kr.here.cell 1 _ rfl
    have kr_c2 := kr.here.cell 2 _ rfl
    have kr_c3 := kr.here.cell 3 _ rfl
    have kr_c4 := kr.here.cell 4 _ rfl
    go_wp2_with fail
    have HC0 := Lib.hid (show Chg [] w1 w1.drew from (Chg.refl _ _).drew1)
    have HCr := Lib.hid (show Chg [] w1 w1 from Chg.refl _ _)
    have KL := Lib.hid (show ∀ W, Chg [] w1 W → W.cell? ⟨w.heap.size, 0, none⟩ = some (.string r.1) ∧ W.cell? ⟨w.heap.size, 1, none⟩ = some (.string r.2.1) ∧ W.cell? ⟨w.heap.size, 2, none⟩ = some (.bool r.2.2.1.1) ∧ W.cell? ⟨w.heap.size, 3, none⟩ = some (.slice Ar r.2.2.1.2.length cr) ∧ W.cell? ⟨w.heap.size, 4, none⟩ = some (.int .i64 r.2.2.2) ∧ Hid (Chg [] w1 W) from fun W hc => ⟨(kr.chg hc (fun i hi hm => by simp at hm)).here.cell 0 _ rfl, (kr.chg hc (fun i hi hm => by simp at hm)).here.cell 1 _ rfl, (kr.chg hc (fun i hi hm => by simp at hm)).here.cell 2 _ rfl, (kr.chg hc (fun i hi hm => by simp at hm)).here.cell 3 _ rfl, (kr.chg hc (fun i hi hm => by simp at hm)).here.cell 4 _ rfl, Lib.hid hc⟩)
    have BBF := Lib.hid (show ∀ W, Chg [] w1 W → Below w.heap.size w W from fun W hc => below_chg bb1 hc bb1.size (fun i hi => by simp at hi))
    clear kr_c0 kr_c1 kr_c2 kr_c3 kr_c4
    go_region_held3 (fun W => W.cell? ⟨w.heap.size, 0, none⟩ = some (.string r.1) ∧ W.cell? ⟨w.heap.size, 1, none⟩ = some (.string r.2.1) ∧ W.cell? ⟨w.heap.size, 2, none⟩ = some (.bool r.2.2.1.1) ∧ W.cell? ⟨w.heap.size, 3, none⟩ = some (.slice Ar r.2.2.1.2.length cr) ∧ W.cell? ⟨w.heap.size, 4, none⟩ = some (.int .i64 r.2.2.2) ∧ Hid (Chg [] w1 W))
      ((refine KL.out _ ?_; (first | exact HC3.out | exact HC2.out | exact HCr.out | exact HC0.out | exact HC3.out.drew1 | exact HC2.out.drew1 | exact HCr.out.drew1 | exact HC0.out.drew1 | exact HC3.out.trans (Chg.of_below (below_al (Below.refl _ _) _)) | exact HC2.out.trans (Chg.of_below (below_al (Below.refl _ _) _)) | exact HCr.out.trans (Chg.of_below (below_al (Below.refl _ _) _)) | exact HC0.out.trans (Chg.of_below (below_al (Below.refl _ _) _)) | fail)))
      (first
        | (go_at_call 49; (have hBB := (‹_ ∧ _ ∧ _ ∧ _ ∧ _ ∧ Hid (Chg [] w1 _)›).2.2.2.2.2); (with_reducible refine ((implDecText_any _ r.2.2 _ hl (ODr.out _ (BBF.out _ hBB.out)) (HD.out.below (BBF.out _ hBB.out))).mono fun _ _ h => postT_isE ET.out h).mono ?_); rintro e w2 ⟨rfl, b2⟩; have HC2 := Lib.hid (hBB.out.trans (Chg.of_below b2)); have HBZ2 := Lib.hid hBB.out.size; clear hBB)
        | (go_at_call 48; (have hBB := (‹_ ∧ _ ∧ _ ∧ _ ∧ _ ∧ Hid (Chg [] w1 _)›).2.2.2.2.2); (with_reducible refine (join3_at r.1 r.2.1 T (textE r) _ _ _ hq1 hq2 hq3 HV.out (by first | exact (box_new _ _ 9).here | exact box_drewD (box_new _ _ 9).here)).mono ?_); rintro e w3 ⟨rfl, b3⟩; have HC3 := Lib.hid (hBB.out.trans (Chg.of_below b3)); have HBZ3 := Lib.hid hBB.out.size; clear hBB))
    all_goals
      have bb3 := BBF.out _ HC3.out
      replace kr := kr.chg HC3.out (fun i hi hm => by simp at hm)
      go_wp2
      go_ret
      exact ⟨rfl, bb3⟩
  · have ok' : okE r = false := by simpa using ok
    have HV := Lib.hid (textE_no ok)
    rw [ok']
    clear ok ok'
    go_wp2
    go_ret
    exact ⟨ret_str HV.out.symm, bb1⟩
end Go.Proofs.YtbpfabicampdkaaDoor

namespace Go.Proofs.YtbpfabicampdkaaDoor
open Go.RowKit

theorem specPadT (s : ByteArray) (n : Int) (w : World) (T : ByteArray) (hs : s.size ≤ 1048576) (hn : n ≤ 2000) (hT : padB s n = T) : Calls Tryd.prog 68 #[.string s, .int .i64 n] w (PostT T w) := by
  subst hT
  refine (specPad_any s n w hs hn).mono ?_
  rintro e w' ⟨rfl, rfl⟩
  exact ⟨rfl, Below.refl _ _⟩
set_option maxHeartbeats 4000000 in
set_option maxRecDepth 100000 in
theorem specDecText_any (va : Value) (a : DI) (w : World) (hla : a.1.2.length ≤ 1048576) (ha : OwnD va a w) :
    Calls Tryd.prog 47 #[va] w (PostT (textD a) w) := by
  have Ha := Lib.hid ha
  obtain ⟨Aa, ca, rfl⟩ := ownD_form ha
  have ODa := Lib.hid (show ∀ W, Below w.heap.size w W → OwnD (.agg #[.bool a.1.1, .slice Aa a.1.2.length ca, .int .i64 a.2]) a W from fun W hb => OwnD.below Ha.out hb)
  have OIa := Lib.hid (show ∀ W, Below w.heap.size w W → OwnI (.slice Aa a.1.2.length ca) a.1.2 W from fun W hb => ownD_open (ODa.out W hb))
  have OSa := Lib.hid (show ∀ W, Below w.heap.size w W → OwnS (.agg #[.bool a.1.1, .slice Aa a.1.2.length ca]) a.1 W from fun W hb => OwnS.mk (OIa.out W hb))
  clear ha
  have bb0 : Below w.heap.size w (w.alloc (.cells #[.bool a.1.1, .slice Aa a.1.2.length ca, .int .i64 a.2] 33)) := below_al (Below.refl _ _) _
  have ka := (box_new w #[.bool a.1.1, .slice Aa a.1.2.length ca, .int .i64 a.2] 33)
  obtain ⟨T, hT⟩ : ∃ T, textD a = T := ⟨_, rfl⟩
  have ET := Lib.hid hT
  rw [hT]
  clear hT
  go_enter Tryd.func47, Tryd.ntmps47
  have ka_c0 := ka.here.cell 0 _ rfl
  have ka_c1 := ka.here.cell 1 _ rfl
  have ka_c2 := ka.here.cell 2 _ rfl
  go_wp2_with fail
  clear ka_c0 ka_c1 ka_c2
  refine (specDecOk_any _ a _ hla (ODa.out _ bb0)).mono ?_
  rintro e w1 ⟨rfl, b1⟩
  have bb1 := Below.next bb0 b1
  replace ka := ka.below b1
  by_cases ok : okD a = true
  · rw [ok]
    have HO := Lib.hid ok
    have qa := partsD ok
    have ta := qa.lo
    have ta2 := qa.hi
    obtain ⟨K, hK, hKl, hB⟩ := body_K ok
    have HV := Lib.hid (show T = if a.1.1 = true then (⟨#[45]⟩ : ByteArray) ++ pointB (bodyD a) a.2 else pointB (bodyD a) a.2 by rw [← ET.out]; unfold textD; rw [if_pos HO.out])
    have hP0 : ¬ 0 < a.2 → pointB (bodyD a) a.2 = bodyD a := fun h => by unfold pointB; rw [if_neg h]
    have hP1 : 0 < a.2 → pointB (bodyD a) a.2 = (bodyD a).extract 0 K ++ ⟨#[46]⟩ ++ (bodyD a).extract K (bodyD a).size := fun h => by unfold pointB; rw [if_pos h, show (bodyD a).size - a.2.toNat = K by omega]
    obtain ⟨n1, hn1⟩ : ∃ n, IntKind.i64.wrap (a.2 + 1) = n := ⟨_, rfl⟩
    have hn2 : n1 = a.2 + 1 := by rw [← hn1]; exact IntWalk.i64_in _ (by omega)
    obtain ⟨D, hD⟩ : ∃ D, natTextB a.1.2 = D := ⟨_, rfl⟩
    have hDs : D.size ≤ 1048576 := by rw [← hD]; have := natTextB_size a.1.2; omega
    have EB := Lib.hid (show padB D n1 = bodyD a by rw [← hD, hn2]; rfl)
    have hn3 : n1 ≤ 2000 := by omega
    obtain ⟨Q, hQ⟩ : ∃ Q, pointB (bodyD a) a.2 = Q := ⟨_, rfl⟩
    rw [hQ] at HV hP0 hP1
    generalize bodyD a = B at *
    have ED := Lib.hid hD
    have hKw : IntKind.i64.wrap ((B.size : Int) - a.2) = (K : Int) := by rw [hK]; exact IntWalk.i64_in _ (by omega)
    have c1 : (0 : Int) ≤ (K : Int) := by omega
    have c2 : (K : Int) ≤ (B.size : Int) := by omega
    have HP0 := Lib.hid hP0
    have HP1 := Lib.hid hP1
    have hQs : Q.size ≤ 200 := by
      by_cases h : 0 < a.2
      · rw [hP1 h, ByteArray.size_append, ByteArray.size_append, ByteArray.size_extract, ByteArray.size_extract]; have e : (⟨#[46]⟩ : ByteArray).size = 1 := rfl; omega
      · rw [hP0 h]; omega
    clear hD hn2 hK ok qa hP0 hP1 hQ
    have ka_c0 := ka.here.cell 0 _ rfl
    have ka_c1 := ka.here.cell 1 _ rfl
    have ka_c2 := ka.here.cell 2 _ rfl
    go_wp2_with fail
    have HC0 := Lib.hid (show Chg [] w1 w1.drew from (Chg.refl _ _).drew1)
    have HCr := Lib.hid (show Chg [] w1 w1 from Chg.refl _ _)
    have KL := Lib.hid (show ∀ W, Chg [] w1 W → W.cell? ⟨w.heap.size, 0, none⟩ = some (.bool a.1.1) ∧ W.cell? ⟨w.heap.size, 1, none⟩ = some (.slice Aa a.1.2.length ca) ∧ W.cell? ⟨w.heap.size, 2, none⟩ = some (.int .i64 a.2) ∧ Hid (Chg [] w1 W) from fun W hc => ⟨(ka.chg hc (fun i hi hm => by simp at hm)).here.cell 0 _ rfl, (ka.chg hc (fun i hi hm => by simp at hm)).here.cell 1 _ rfl, (ka.chg hc (fun i hi hm => by simp at hm)).here.cell 2 _ rfl, Lib.hid hc⟩)
    have BBF := Lib.hid (show ∀ W, Chg [] w1 W → Below w.heap.size w W from fun W hc => below_chg bb1 hc bb1.size (fun i hi => by simp at hi))
    clear ka_c0 ka_c1 ka_c2
    go_region_held3 (fun W => W.cell? ⟨w.heap.size, 0, none⟩ = some (.bool a.1.1) ∧ W.cell? ⟨w.heap.size, 1, none⟩ = some (.slice Aa a.1.2.length ca) ∧ W.cell? ⟨w.heap.size, 2, none⟩ = some (.int .i64 a.2) ∧ Hid (Chg [] w1 W))
      ((refine KL.out _ ?_; (first | exact HC3.out | exact HC2.out | exact HCr.out | exact HC0.out | exact HC3.out.drew1 | exact HC2.out.drew1 | exact HCr.out.drew1 | exact HC0.out.drew1 | exact HC3.out.trans (Chg.of_below (below_al (Below.refl _ _) _)) | exact HC2.out.trans (Chg.of_below (below_al (Below.refl _ _) _)) | exact HCr.out.trans (Chg.of_below (below_al (Below.refl _ _) _)) | exact HC0.out.trans (Chg.of_below (below_al (Below.refl _ _) _)) | fail)))
      (first
        | (go_at_call 69; (have hBB := (‹_ ∧ _ ∧ _ ∧ Hid (Chg [] w1 _)›).2.2.2); (with_reducible refine ((specNatText_any _ a.1.2 0 _ _ hla (Nat.le_refl _) (OIa.out _ (BBF.out _ hBB.out)).row).mono fun _ _ h => postT_eqD ED.out h).mono ?_); rintro e w2 ⟨rfl, b2⟩; have HC2 := Lib.hid (hBB.out.trans (Chg.of_below b2)); have HBZ2 := Lib.hid hBB.out.size; clear hBB)
        | (go_at_call 68; (have hBB := (‹_ ∧ _ ∧ _ ∧ Hid (Chg [] w1 _)›).2.2.2); (with_reducible refine (specPadT D n1 _ B hDs hn3 EB.out).mono ?_); rintro e w3 ⟨rfl, b3⟩; have HC3 := Lib.hid (hBB.out.trans (Chg.of_below b3)); have HBZ3 := Lib.hid hBB.out.size; clear hBB))
    all_goals
      have bb3 := BBF.out _ HC3.out
      replace ka := ka.chg HC3.out (fun i hi hm => by simp at hm)
      (try (rename _ ∧ _ ∧ _ ∧ Hid (Chg _ _ _) => hgone; clear hgone))
      have hq1 : ¬ (9223372036854775807 < (1 : Int) + Q.size) := by omega
      by_cases h0 : 0 < a.2
      · have EQ := Lib.hid (HP1.out (by omega))
        have hs1 : (B.extract 0 K).size = K := by rw [ByteArray.size_extract]; omega
        have hs2 : (B.extract K B.size).size = B.size - K := by rw [ByteArray.size_extract]; omega
        cases hneg : a.1.1 with
        | true =>
          have HVV := Lib.hid (show T = (⟨#[45]⟩ : ByteArray) ++ (B.extract 0 K ++ ⟨#[46]⟩ ++ B.extract K B.size) by have h := HV.out; rw [hneg, EQ.out] at h; exact h)
          rw [hneg] at ka
          clear hneg
          have ka_c0 := ka.here.cell 0 _ rfl
          have ka_c1 := ka.here.cell 1 _ rfl
          have ka_c2 := ka.here.cell 2 _ rfl
          go_wp2
          go_quiet (fail)
          go_wp2
          go_ret
          exact ⟨ret_strD HVV.out.symm, below_drewN bb3 _⟩
        | false =>
          have HVV := Lib.hid (show T = (B.extract 0 K ++ ⟨#[46]⟩ ++ B.extract K B.size) by have h := HV.out; rw [hneg, EQ.out] at h; exact h)
          rw [hneg] at ka
          clear hneg
          have ka_c0 := ka.here.cell 0 _ rfl
          have ka_c1 := ka.here.cell 1 _ rfl
          have ka_c2 := ka.here.cell 2 _ rfl
          go_wp2
          go_quiet (fail)
          go_wp2
          go_ret
          exact ⟨ret_strD HVV.out.symm, below_drewN bb3 _⟩
      · have EQ := Lib.hid (HP0.out (by omega))
        cases hneg : a.1.1 with
        | true =>
          have HVV := Lib.hid (show T = (⟨#[45]⟩ : ByteArray) ++ B by have h := HV.out; rw [hneg, EQ.out] at h; exact h)
          rw [hneg] at ka
          clear hneg
          have ka_c0 := ka.here.cell 0 _ rfl
          have ka_c1 := ka.here.cell 1 _ rfl
          have ka_c2 := ka.here.cell 2 _ rfl
          go_wp2
          go_ret
          exact ⟨ret_strD HVV.out.symm, bb3⟩
        | false =>
          have HVV := Lib.hid (show T = B by have h := HV.out; rw [hneg, EQ.out] at h; exact h)
          rw [hneg] at ka
          clear hneg
          have ka_c0 := ka.here.cell 0 _ rfl
          have ka_c1 := ka.here.cell 1 _ rfl
          have ka_c2 := ka.here.cell 2 _ rfl
          go_wp2
          go_ret
          exact ⟨ret_strD HVV.out.symm, bb3⟩
  · have ok' : okD a = false := by simpa using ok
    have HV := Lib.hid (show (⟨#[]⟩ : ByteArray) = T by rw [← ET.out]; unfold textD; rw [if_neg ok])
    rw [ok']
    clear ok ok' ka
    go_wp2
    go_ret
    exact ⟨ret_strD HV.out, bb1⟩
end Go.Proofs.YtbpfabicampdkaaDoor
